/- The log read: (*segmentLog).read. A log's own cells while it is read: how each step leaves them. (*segmentLog).read, walked. impl.readLog, impl.WalRead, walked. -/
import Derived.Test.YtpdjfjapdmopoaaSgM
import Derived.Test.YtpdjfjapdmopoaaRdF
import Derived.Deep.RegionHeld3
import Derived.Test.YtpdjfjapdmopoaaAppR
import Derived.Test.YtpdjfjapdmopoaaQb
import Derived.ScopeJumps
import Derived.WalkMore
import Derived.Deep.DeepCutAuto
import Derived.Test.YtpdjfjapdmopoaaSmallD
namespace Go.Proofs.Ytpdjfjapdmopoaa
open Go.ChangeShapes Go.WideShapes Go.ChangeAt Go.RowKit
set_option linter.unusedVariables false
set_option linter.unusedSimpArgs false

instance : Inhabited (Fl × Value) := ⟨(default, undef)⟩
theorem sgC_get : ∀ (xs : List (Fl × Value)) (k j : Nat), k < xs.length → j < 5 → (xs.flatMap sgC)[k * 5 + j]? = (sgC (xs.getD k default))[j]?
  | [], k, j, h, _ => by simp at h
  | x :: xs, 0, j, _, hj => by
    rw [List.flatMap_cons, List.getElem?_append_left (by simp [sgC]; omega)]; simp
  | x :: xs, k + 1, j, h, hj => by
    have e : (k + 1) * 5 + j = 5 + (k * 5 + j) := by omega
    rw [List.flatMap_cons, List.getElem?_append_right (by simp [sgC]; omega), e]
    have := sgC_get xs k j (by simpa using h) hj
    simpa [sgC] using this
theorem OwnG.form {B : Nat} {w : World} {v : Value} {xs : List (Fl × Value)} (h : OwnG B w v xs) : ∃ a cap, v = .slice a xs.length cap ∧ xs.length ≤ cap ∧ cap ≤ maxLen ∧ ∀ k, k < xs.length → ∃ g, a = some ⟨g, 0, none⟩ ∧ v.ownBlock = some g ∧ g < w.heap.size ∧ ∀ j u, (sgC (xs.getD k default))[j]? = some u → w.cell? ⟨g, k * 5 + j, none⟩ = some u := by
  rcases own_shape h.1 with ⟨rfl, h0⟩ | ⟨g, cap, rfl, hb, hlt, hn, hm⟩
  · exact ⟨none, 0, by rw [h0], by omega, by unfold maxLen; omega, fun k hk => by omega⟩
  · refine ⟨_, _, rfl, hn, hm, fun k hk => ⟨g, rfl, rfl, hlt, fun j u hu => ?_⟩⟩
    have hj : j < 5 := by
      rcases Nat.lt_or_ge j 5 with h | h
      · exact h
      · rw [List.getElem?_eq_none (by simpa [sgC] using h)] at hu; cases hu
    have := sgC_get xs k j hk hj
    rw [hu] at this
    rw [h.1.cellAt (k * 5 + j) (by omega)]
    exact this
theorem frP_range (b : List Int) (hb : ∀ i, 0 ≤ b.getD i 0 ∧ b.getD i 0 ≤ 255) : ∀ n p, b.length - p = n → ∀ d ∈ (frP b p).1, ∀ i, 0 ≤ d.getD i 0 ∧ d.getD i 0 ≤ 255 := by
  intro n
  induction n using Nat.strongRecOn with
  | ind n ih =>
    intro p hp d hd
    rw [frP] at hd
    split at hd
    · split at hd
      · rename_i h1 h2
        rcases List.mem_cons.1 hd with rfl | hd
        · obtain ⟨_, _, _, _, _, he, _⟩ := frStep_ok (d := (frStep (b.drop p)).2) (by rw [← h2])
          rw [he]
          exact range_take _ (range_drop 6 (range_drop p hb))
        · exact ih (b.length - (p + 6 + (frStep (b.drop p)).2.length)) (by omega) _ rfl d hd
      · cases hd
    · cases hd
theorem frF_range (f : Fl) : ∀ i, ∀ j, 0 ≤ ((frF f).1.getD i []).getD j 0 ∧ ((frF f).1.getD i []).getD j 0 ≤ 255 := by
  intro i j
  by_cases hi : i < (frF f).1.length
  · refine frP_range (bytesI f.d) (bytesI_range f.d) _ 0 rfl _ ?_ j
    rw [List.getD_eq_getElem?_getD, List.getElem?_eq_getElem hi]
    exact List.getElem_mem _
  · have e : (frF f).1.getD i [] = [] := by rw [List.getD_eq_getElem?_getD, List.getElem?_eq_none (by omega)]; rfl
    rw [e]; simp
/-- The number of a headed segment. -/
theorem head_num {d : List Int} (hr : ∀ i, 0 ≤ d.getD i 0 ∧ d.getD i 0 ≤ 255) (h : d.length = 4) : (numP 4 (some (bytesI (strOfNums d)))).1 = dec d ∧ 0 ≤ dec d ∧ dec d < 4294967296 := by
  have e : bytesI (strOfNums d) = d := by
    have := bytes_back2 d hr
    unfold bytesI
    exact this.symm
  rw [e]
  refine ⟨by simp [numP, takeP, h, List.take_of_length_le], ?_⟩
  have := decN_lo d hr d.length
  unfold dec
  rw [h] at this ⊢
  simpa using this
/-- The log's own cells, what was read so far. -/
def LgS (w0 : World) (lb : Nat) (gv : Value) (wr : World) (L : Lg) (rv nv : Value) : Prop :=
  Blk wr lb [.int .i64 L.first, rv, nv, .int .i64 L.torn, gv] ∧ OwnS w0.heap.size wr rv L.recs ∧ OwnS w0.heap.size wr nv L.names ∧ (∀ k, rv.ownBlock = some k → nv.ownBlock ≠ some k) ∧ Touch (fun k => k = lb) w0 wr
theorem LgS.below {w0 wr w' : World} {lb : Nat} {gv rv nv : Value} {L : Lg} (h : LgS w0 lb gv wr L rv nv) (hb : Below wr.heap.size wr w') : LgS w0 lb gv w' L rv nv :=
  ⟨h.1.below hb, h.2.1.below hb, h.2.2.1.below hb, h.2.2.2.1, h.2.2.2.2.trans (T' := fun _ => False) (Touch.ofBelow hb) (fun _ _ h => h.elim)⟩
theorem OwnG.kept {T : Nat → Prop} {B : Nat} {w w' : World} {v : Value} {xs : List (Fl × Value)} (h : OwnG B w v xs) (ht : Touch T w w') (hn : ∀ k, v.ownBlock = some k → ¬ T k) (hx : ∀ x ∈ xs, ∀ k, x.2.ownBlock = some k → ¬ T k) : OwnG B w' v xs :=
  ⟨own_kept h.1 ht hn, fun x hxx => (h.2 x hxx).kept ht (hx x hxx)⟩
end Go.Proofs.Ytpdjfjapdmopoaa
namespace Go.Proofs.Ytpdjfjapdmopoaa
open Go.ChangeShapes Go.WideShapes Go.ChangeAt Go.RowKit
set_option linter.unusedVariables false

theorem LgS.rne {w0 w1 : World} {lb : Nat} {gv rv nv : Value} {L : Lg} (h : LgS w0 lb gv w1 L rv nv) (hlb : lb < w0.heap.size) : ∀ k, rv.ownBlock = some k → k ≠ lb := fun k hk e => by
  have := (h.2.1.lt k hk).1; omega
theorem LgS.nne {w0 w1 : World} {lb : Nat} {gv rv nv : Value} {L : Lg} (h : LgS w0 lb gv w1 L rv nv) (hlb : lb < w0.heap.size) : ∀ k, nv.ownBlock = some k → k ≠ lb := fun k hk e => by
  have := (h.2.2.1.lt k hk).1; omega
/-- A store into one of the numbers. -/
theorem LgS.setTorn {w0 w1 : World} {lb : Nat} {gv rv nv : Value} {L : Lg} (h : LgS w0 lb gv w1 L rv nv) (hlb : lb < w0.heap.size) (t : Int) : LgS w0 lb gv (w1.setCell ⟨lb, 3, none⟩ (.int .i64 t)) ⟨L.first, L.recs, L.names, t⟩ rv nv := by
  have ht := (Touch.refl (fun k => k = lb) w1).setCell ⟨lb, 3, none⟩ (.int .i64 t) (fun _ => rfl)
  exact ⟨h.1.set 3 (.int .i64 t) (by simp), h.2.1.kept ht (h.rne hlb), h.2.2.1.kept ht (h.nne hlb), h.2.2.2.1, h.2.2.2.2.trans ht (fun _ _ e => e)⟩
theorem LgS.setFirst {w0 w1 : World} {lb : Nat} {gv rv nv : Value} {L : Lg} (h : LgS w0 lb gv w1 L rv nv) (hlb : lb < w0.heap.size) (t : Int) : LgS w0 lb gv (w1.setCell ⟨lb, 0, none⟩ (.int .i64 t)) ⟨t, L.recs, L.names, L.torn⟩ rv nv := by
  have ht := (Touch.refl (fun k => k = lb) w1).setCell ⟨lb, 0, none⟩ (.int .i64 t) (fun _ => rfl)
  exact ⟨h.1.set 0 (.int .i64 t) (by simp), h.2.1.kept ht (h.rne hlb), h.2.2.1.kept ht (h.nne hlb), h.2.2.2.1, h.2.2.2.2.trans ht (fun _ _ e => e)⟩
/-- An append behind the names: the log ahead of the store, and behind it. -/
theorem LgS.names {w0 w1 w2 : World} {lb : Nat} {gv rv nv nv' : Value} {L : Lg} {fn : ByteArray} (h : LgS w0 lb gv w1 L rv nv) (hlb : lb < w0.heap.size)
    (h2 : OwnS w0.heap.size w2 nv' (L.names ++ [fn])) (ht : Touch (fun k => nv.ownBlock = some k) w1 w2) (hat : ∀ k, nv'.ownBlock = some k → nv.ownBlock = some k ∨ w1.heap.size ≤ k) :
    Blk w2 lb [.int .i64 L.first, rv, nv, .int .i64 L.torn, gv] ∧ LgS w0 lb gv (w2.setCell ⟨lb, 2, none⟩ nv') ⟨L.first, L.recs, L.names ++ [fn], L.torn⟩ rv nv' := by
  have hB := h.1.kept ht (fun e => h.nne hlb lb e rfl)
  have hs := (Touch.refl (fun k => k = lb) w2).setCell ⟨lb, 2, none⟩ nv' (fun _ => rfl)
  have hr := h.2.1.kept ht (fun k hk e => h.2.2.2.1 k hk e)
  refine ⟨hB, hB.set 2 nv' (by simp), hr.kept hs (h.rne hlb), h2.kept hs (fun k hk e => by have := (h2.lt k hk).1; omega), fun k hk e => ?_, ?_⟩
  · rcases hat k e with h3 | h3
    · exact h.2.2.2.1 k hk h3
    · have := (h.2.1.lt k hk).2; omega
  · exact (h.2.2.2.2.trans ht (fun k hk e => by have := (h.2.2.1.lt k e).1; omega)).trans hs (fun _ _ e => e)
/-- An append behind the records. -/
theorem LgS.records {w0 w1 w2 : World} {lb : Nat} {gv rv nv rv' : Value} {L : Lg} {ts : List ByteArray} (h : LgS w0 lb gv w1 L rv nv) (hlb : lb < w0.heap.size)
    (h2 : OwnS w0.heap.size w2 rv' (L.recs ++ ts)) (ht : Touch (fun k => rv.ownBlock = some k) w1 w2) (hat : ∀ k, rv'.ownBlock = some k → rv.ownBlock = some k ∨ w1.heap.size ≤ k) :
    Blk w2 lb [.int .i64 L.first, rv, nv, .int .i64 L.torn, gv] ∧ LgS w0 lb gv (w2.setCell ⟨lb, 1, none⟩ rv') ⟨L.first, L.recs ++ ts, L.names, L.torn⟩ rv' nv := by
  have hB := h.1.kept ht (fun e => h.rne hlb lb e rfl)
  have hs := (Touch.refl (fun k => k = lb) w2).setCell ⟨lb, 1, none⟩ rv' (fun _ => rfl)
  have hn := h.2.2.1.kept ht (fun k hk e => h.2.2.2.1 k e hk)
  refine ⟨hB, hB.set 1 rv' (by simp), h2.kept hs (fun k hk e => by have := (h2.lt k hk).1; omega), hn.kept hs (h.nne hlb), fun k hk e => ?_, ?_⟩
  · rcases hat k hk with h3 | h3
    · exact h.2.2.2.1 k h3 e
    · have := (h.2.2.1.lt k e).2; omega
  · exact (h.2.2.2.2.trans ht (fun k hk e => by have := (h.2.1.lt k e).1; omega)).trans hs (fun _ _ e => e)
theorem frP_pos (b : List Int) : ∀ n p, b.length - p = n → p ≤ b.length → (frP b p).2.1 ≤ b.length := by
  intro n
  induction n using Nat.strongRecOn with
  | ind n ih =>
    intro p hp hle
    rw [frP]
    split
    · split
      · rename_i h1 h2
        obtain ⟨h6, _, _, _, h5, _⟩ := frStep_ok (d := (frStep (b.drop p)).2) (by rw [← h2])
        rw [List.length_drop] at h5 h6
        exact ih (b.length - (p + 6 + (frStep (b.drop p)).2.length)) (by omega) _ rfl (by omega)
      · exact hle
    · exact hle
theorem frF_pos (f : Fl) : (frF f).2.1 ≤ f.d.size := by
  have := frP_pos (bytesI f.d) _ 0 rfl (Nat.zero_le _)
  rw [bytesI_len2] at this
  exact this
theorem frP_each (b : List Int) : ∀ n p, b.length - p = n → ∀ d ∈ (frP b p).1, d.length ≤ 200 := by
  intro n
  induction n using Nat.strongRecOn with
  | ind n ih =>
    intro p hp d hd
    rw [frP] at hd
    split at hd
    · split at hd
      · rename_i h1 h2
        rcases List.mem_cons.1 hd with rfl | hd
        · exact (frStep_ok (d := (frStep (b.drop p)).2) (by rw [← h2])).2.2.2.1
        · exact ih (b.length - (p + 6 + (frStep (b.drop p)).2.length)) (by omega) _ rfl d hd
      · cases hd
    · cases hd
theorem frF_each (f : Fl) (i : Nat) : ((frF f).1.getD i []).length ≤ 200 := by
  by_cases hi : i < (frF f).1.length
  · refine frP_each (bytesI f.d) _ 0 rfl _ ?_
    rw [List.getD_eq_getElem?_getD, List.getElem?_eq_getElem hi]
    exact List.getElem_mem _
  · rw [List.getD_eq_getElem?_getD, List.getElem?_eq_none (by omega)]; simp
theorem strOfNums_size (l : List Int) : (strOfNums l).size = l.length := by
  show (strOfNums l).data.size = _
  simp [strOfNums]
/-- What the end of a round is told: the log so far, the segment's box. -/
structure Tl (w : World) (lb sb : Nat) (gv : Value) (L : Lg) (rv nv : Value) (fn fd : ByteArray) (wh : Nat) (w' : World) : Prop where
  S : LgS w lb gv w' L rv nv
  x0 : w'.cell? ⟨sb, 0, none⟩ = some (.string fn)
  x1 : w'.cell? ⟨sb, 1, none⟩ = some (.int .i64 (fd.size : Int))
  x3 : w'.cell? ⟨sb, 3, none⟩ = some (.int .i64 (wh : Int))
  lt : sb < w'.heap.size
  ne : sb ≠ lb
  llt : lb < w.heap.size
  nb : ∀ j, nv.ownBlock = some j → j ≠ sb
theorem Tl.named {w w' w5 : World} {lb sb gg capg n : Nat} {gv : Value} {L : Lg} {rv nv : Value} {fn fd : ByteArray} {wh : Nat} {o : Obj} (h : Tl w lb sb gv L rv nv fn fd wh w')
    (h1 : w5.ownsRow w.heap.size 9 1 (.slice (some ⟨gg, 0, none⟩) n capg) n (L.names.map Value.string ++ [Value.string fn])) (hg : (w'.alloc o).drew.grownBy w5 nv.ownBlock) (hat : nv.ownBlock = some gg ∨ gg = w'.heap.size + 1) :
    w5.cell? ⟨lb, 2, none⟩ = some nv ∧ w5.frozen? ⟨lb, 2, none⟩ = false ∧ Tl w lb sb gv ⟨L.first, L.recs, L.names ++ [fn], L.torn⟩ rv (.slice (some ⟨gg, 0, none⟩) n capg) fn fd wh (w5.setCell ⟨lb, 2, none⟩ (.slice (some ⟨gg, 0, none⟩) n capg)) := by
  have hT : Touch (fun k => nv.ownBlock = some k) w' w5 := ((((Touch.refl _ w').alloc o).drew).grown hg (fun k hk _ => hk))
  have hn : n = (L.names ++ [fn]).length := by have := h1.1; simp at this; simp; omega
  have hO : OwnS w.heap.size w5 (.slice (some ⟨gg, 0, none⟩) n capg) (L.names ++ [fn]) := by
    unfold OwnS
    rw [List.map_append, ← hn]
    exact h1
  have hat' : ∀ k, (Value.slice (some ⟨gg, 0, none⟩) n capg).ownBlock = some k → nv.ownBlock = some k ∨ w'.heap.size ≤ k := fun k hk => by
    have e : gg = k := by simpa [Value.ownBlock] using hk
    subst e
    rcases hat with h0 | h0
    · exact .inl h0
    · right; omega
  obtain ⟨hB, hS⟩ := h.S.names h.llt hO hT hat'
  have hsb : ¬ nv.ownBlock = some sb := fun e => h.nb sb e rfl
  have cc : ∀ j, (w5.setCell ⟨lb, 2, none⟩ (.slice (some ⟨gg, 0, none⟩) n capg)).cell? ⟨sb, j, none⟩ = w'.cell? ⟨sb, j, none⟩ := fun j =>
    (World.cell?_setCell_other _ _ _ _ (fun e => h.ne (by simpa using (congrArg Addr.block e).symm))).trans (hT.cell (p := ⟨sb, j, none⟩) h.lt hsb)
  refine ⟨hB.cell 2 rfl, hB.fro 2, hS, (cc 0).trans h.x0, (cc 1).trans h.x1, (cc 3).trans h.x3, ?_, h.ne, h.llt, fun j hj e => ?_⟩
  · have := Nat.lt_of_lt_of_le h.lt hT.size
    simpa using this
  · rcases hat' j hj with h0 | h0
    · exact h.nb j h0 e
    · have := h.lt; omega
theorem rec_done {w w6 w7 : World} {lb sb n : Nat} {gv rv nv : Value} {L : Lg} {ts : List ByteArray} {a7 : Option Addr} {c7 : Nat} {seg : List Value} (hS : LgS w lb gv w6 L rv nv) (hlb : lb < w.heap.size) (hX : Blk w6 sb seg)
    (h1 : w7.ownsRow w.heap.size 9 1 (.slice a7 n c7) n (L.recs.map Value.string ++ ts.map Value.string)) (hg : w6.grownBy w7 rv.ownBlock) (hat : (Value.slice a7 n c7).ownBlock = rv.ownBlock ∨ (Value.slice a7 n c7).ownBlock = some w6.heap.size) (hne : sb ≠ lb) (hsb : ∀ j, rv.ownBlock = some j → j < sb) :
    w7.cell? ⟨lb, 1, none⟩ = some rv ∧ w7.frozen? ⟨lb, 1, none⟩ = false ∧ LgS w lb gv (w7.setCell ⟨lb, 1, none⟩ (.slice a7 n c7)) ⟨L.first, L.recs ++ ts, L.names, L.torn⟩ (.slice a7 n c7) nv ∧ Blk (w7.setCell ⟨lb, 1, none⟩ (.slice a7 n c7)) sb seg := by
  have hT : Touch (fun k => rv.ownBlock = some k) w6 w7 := (Touch.refl _ w6).grown hg (fun k hk _ => hk)
  have hn : n = (L.recs ++ ts).length := by have := h1.1; simp at this; simp; omega
  have hO : OwnS w.heap.size w7 (.slice a7 n c7) (L.recs ++ ts) := by
    unfold OwnS
    rw [List.map_append, ← hn]
    exact h1
  obtain ⟨hB, hS'⟩ := hS.records hlb hO hT (fun k hk => by
    rcases hat with h0 | h0
    · left; rw [← h0]; exact hk
    · right; rw [h0] at hk; cases hk; exact Nat.le_refl _)
  exact ⟨hB.cell 1 rfl, hB.fro 1, hS', (hX.kept hT (fun e => by have := hsb sb e; omega)).other 1 _ (fun e => hne e.symm)⟩
end Go.Proofs.Ytpdjfjapdmopoaa
namespace Go.Proofs.Ytpdjfjapdmopoaa
open Go.ChangeShapes Go.WideShapes Go.ChangeAt Go.RowKit
set_option linter.unusedVariables false
set_option linter.unusedSimpArgs false

theorem frame_q {a : Act} {F : (Nat → Value) → Act} (h : a = F (fun i => a.tmps.getD i undef)) : ∃ q, a = F q := ⟨_, h⟩
set_option maxRecDepth 100000 in
set_option maxHeartbeats 2000000 in
theorem read_any (lb B : Nat) (gv : Value) (xs : List (Fl × Value)) (w : World) (hG : OwnG B w gv xs) (hL : Blk w lb [.int .i64 0, .slice none 0 0, .slice none 0 0, .int .i64 0, gv]) (hlb : lb < w.heap.size) (hl : xs.length ≤ 8) (hsz : ∀ x ∈ xs, x.1.n.size ≤ 1048576 ∧ x.1.d.size ≤ 3000)
    (hg : ∀ k, gv.ownBlock = some k → k ≠ lb) (hx : ∀ x ∈ xs, ∀ k, x.2.ownBlock = some k → k ≠ lb) :
    Calls Try.prog 65 #[.pointer (some ⟨lb, 0, none⟩)] w fun e w' => e = .returned (.int .i64 (lgRun (xs.map Prod.fst) 0).2) ∧ ((lgRun (xs.map Prod.fst) 0).2 = 0 → ∃ rv nv, LgS w lb gv w' (lgRun (xs.map Prod.fst) 0).1 rv nv) ∧ Touch (fun k => k = lb) w w' := by
  have HG := hide hG
  have HX := hide hx
  have HGG := hide hg
  have HSZ := hide hsz
  obtain ⟨ga, gc, rfl, hgc, hgm, hcell⟩ := hG.form
  have HCELL := hide hcell
  have L0 : Hid (LgS w lb (.slice ga xs.length gc) w lg0 (.slice none 0 0) (.slice none 0 0)) := hide ⟨hL, OwnS.nil _ _, OwnS.nil _ _, fun k hk => (by cases hk), Touch.refl _ _⟩
  have z4 := hL.cell 4 rfl
  obtain ⟨sg, hsg⟩ : ∃ sg, sg = xs.map Prod.fst := ⟨_, rfl⟩
  have hsl : sg.length = xs.length := by rw [hsg, List.length_map]
  have HSG := hide hsg
  have HSL := hide hsl
  rw [← hsg]
  clear hG hx hg hsz hcell hL hsg hsl
  have mlast : IntKind.i64.wrap ((xs.length : Int) - 1) = (xs.length : Int) - 1 := wrapSg _ (by omega) (by omega)
  go_enter Try.func65, Try.ntmps65
  go_wp2_with fail
  clear z4
  go_loopw [17] (fun i wr => ∃ (k : Nat) (rv nv : Value), k ≤ xs.length ∧ i = .int .i64 k ∧ lgGood sg k ∧ LgS w lb (.slice ga xs.length gc) wr (lgAt sg k) rv nv ∧ 0 ≤ (lgAt sg k).first ∧ (lgAt sg k).first < 4294967296) (fun i _ => xs.length - (intOf i).toNat)
  case atStart => exact ⟨0, _, _, Nat.zero_le _, rfl, lgGood.zero sg, unhide L0, by show (0 : Int) ≤ 0; omega, by show (0 : Int) < 4294967296; omega⟩
  case round =>
    obtain ⟨k, rv, nv, hk, rfl, hgood, hS, hBF⟩ := hrel
    have HBF := hide hBF
    clear hBF
    have HGO := hide hgood
    have HS := hide hS
    clear hgood hS L0
    by_cases hlt : k < xs.length
    · have G1 := hide ((unhide HG).kept (unhide HS).2.2.2.2 (fun j hj e => unhide HGG j hj e) (fun x hxx j hj e => unhide HX x hxx j hj e))
      obtain ⟨g, rfl, hgo, hgl, hcw⟩ := unhide HCELL k hlt
      have hgne := unhide HGG g hgo
      have hmem : xs.getD k default ∈ xs := by rw [List.getD_eq_getElem?_getD, List.getElem?_eq_getElem hlt]; exact List.getElem_mem _
      obtain ⟨hns, hds⟩ := unhide HSZ _ hmem
      have OF := hide ((unhide G1).2 _ hmem)
      have HXN := hide (fun j hj => unhide HX _ hmem j hj)
      have hfx : sg.getD k default = (xs.getD k default).1 := by
        rw [unhide HSG, List.getD_eq_getElem?_getD, List.getElem?_map, List.getD_eq_getElem?_getD, List.getElem?_eq_getElem hlt]; rfl
      have HFX := hide hfx
      have hct := fun j u hu => ((unhide HS).2.2.2.2.cell (p := ⟨g, k * 5 + j, none⟩) hgl hgne).trans (hcw j u hu)
      clear hcw hmem hfx
      generalize hxx : xs.getD k default = x at *
      obtain ⟨⟨fn, fd, fs⟩, fv⟩ := x
      have HXK := hide hxx
      clear hxx
      dsimp only at hns hds OF HFX HXN
      obtain ⟨fa, fl, fc, rfl⟩ : ∃ fa fl fc, fv = .slice fa fl fc := by
        rcases own_shape (unhide OF) with ⟨h, _⟩ | ⟨g, c, h, _⟩
        · exact ⟨_, _, _, h⟩
        · exact ⟨_, _, _, h⟩
      have c0 := hct 0 _ rfl
      have c1 := hct 1 _ rfl
      have c2 := hct 2 _ rfl
      have c3 := hct 3 _ rfl
      have c4 := hct 4 _ rfl
      clear hct
      obtain ⟨wh, hwh⟩ : ∃ wh : Nat, wh = (frF ⟨fn, fd, fs⟩).2.1 := ⟨_, rfl⟩
      obtain ⟨bh, hbh⟩ : ∃ bh : Int, bh = (frF ⟨fn, fd, fs⟩).2.2 := ⟨_, rfl⟩
      dsimp only at c0 c1 c2 c3 c4
      rw [← hwh] at c3
      rw [← hbh] at c4
      rw [Nat.add_zero] at c0
      have HWB := hide (And.intro hwh hbh)
      clear hwh hbh
      have hk0 : (0 : Int) ≤ (k : Int) := by omega
      have hk1 : (k : Int) < (xs.length : Int) := by omega
      have BA := (Below.refl wr.heap.size wr).alloc (Nat.le_refl _) (.cells #[.string fn, .int .i64 (fd.size : Int), .slice fa fl fc, .int .i64 (wh : Int), .int .i64 bh] 131)
      have S1 := hide ((unhide HS).below BA)
      have X1 := hide (Blk.new wr #[.string fn, .int .i64 (fd.size : Int), .slice fa fl fc, .int .i64 (wh : Int), .int .i64 bh] 131 wr.heap.size rfl)
      have F1 := hide ((unhide OF).below BA)
      clear BA OF G1
      go_wp2_with fail
      clear c0 c1 c2 c3 c4
      have hwr := (unhide HS).2.2.2.2.size
      have HNB : Hid (∀ j, nv.ownBlock = some j → j < wr.heap.size) := hide (fun j hj => ((unhide HS).2.2.1.lt j hj).2)
      have HRB : Hid (∀ j, rv.ownBlock = some j → j < wr.heap.size) := hide (fun j hj => ((unhide HS).2.1.lt j hj).2)
      clear HS
      generalize wr.alloc (.cells #[.string fn, .int .i64 (fd.size : Int), .slice fa fl fc, .int .i64 (wh : Int), .int .i64 bh] 131) = w1 at *
      generalize wr.heap.size = sb at *
      have hsz1 := frF_pos ⟨fn, fd, fs⟩
      rw [← (unhide HWB).1] at hsz1
      have hnl : (lgAt sg k).names.length = k := lgAt_names sg k
      have hw12 : IntKind.i64.wrap ((fd.size : Int) - (wh : Int)) = (fd.size : Int) - (wh : Int) := wrapSg _ (by dsimp only at hsz1; omega) (by omega)
      have HNL := hide hnl
      have HS1 := hide hsz1
      clear hnl hsz1
      refine wp_scope_jumps 0 (fun a' w' => (∃ q : Nat → Value, a' = { tmps := #[Value.pointer (some ⟨lb, 0, none⟩), undef, q 2, Value.int IntKind.i64 ((xs.length : Int) - 1), Value.int IntKind.i64 (k : Int), Value.pointer (some ⟨sb, 0, none⟩), Value.pointer (some ⟨lb, 0, none⟩), Value.pointer (some ⟨lb, 0, none⟩), Value.pointer (some ⟨lb, 4, none⟩), Value.slice (some ⟨g, 0, none⟩) xs.length gc, Value.int IntKind.i64 (xs.length : Int), Value.int IntKind.i64 ((xs.length : Int) - 1), Value.pointer (some ⟨lb, 0, none⟩), Value.pointer (some ⟨lb, 0, none⟩), Value.pointer (some ⟨lb, 4, none⟩), Value.slice (some ⟨g, 0, none⟩) xs.length gc, Value.int IntKind.i64 (xs.length : Int), Value.int IntKind.i64 (k : Int), q 18, q 19, q 20, q 21, q 22, q 23, q 24, q 25, q 26, q 27, q 28, q 29, q 30, q 31, q 32, q 33, q 34, q 35, q 36, q 37, q 38, q 39, q 40, q 41, q 42, q 43, q 44, q 45, q 46, q 47, q 48, q 49, q 50, q 51, q 52, q 53, q 54, q 55, q 56, q 57, q 58, q 59, q 60, q 61, q 62, q 63, q 64, q 65, q 66, q 67, q 68, q 69, q 70, q 71, q 72, q 73, q 74, q 75, q 76, q 77, q 78, q 79, q 80, q 81, q 82, q 83, q 84, q 85, q 86, q 87, q 88, q 89, q 90, q 91, q 92, q 93, q 94, q 95, q 96, q 97, q 98, q 99, q 100, q 101, q 102, q 103, q 104, q 105, q 106, q 107, q 108, q 109, q 110, q 111, q 112, q 113, q 114, q 115], defers := [] }) ∧ Tl w lb sb (.slice (some ⟨g, 0, none⟩) xs.length gc) (lgAt sg k) rv nv fn fd wh w' ∧ lgCode sg k (lgAt sg k) = 0 ∧ (frF ⟨fn, fd, fs⟩).1 = []) (fun _ _ => 0) rfl ?_ ?_
      · have X1c4 := (unhide X1).cell 4 rfl
        go_upto_region 5 with fail
        go_cut [34] (fun s wx => s = .bool (decide (bh = 8 ∨ (bh = 16 ∧ k + 1 < xs.length))) ∧ wx = w1)
        case first =>
          rcases (show bh = 8 ∨ (bh = 16 ∧ k + 1 < xs.length) ∨ (bh ≠ 8 ∧ bh ≠ 16) ∨ (bh = 16 ∧ k + 1 = xs.length) by omega) with hb8 | ⟨hb16, hk2⟩ | ⟨hn8, hn16⟩ | ⟨hb16, hk2⟩
          · have HD := hide (show decide (bh = 8 ∨ (bh = 16 ∧ k + 1 < xs.length)) = true by rw [decide_eq_true_eq]; exact .inl hb8)
            have e8 : (bh == 8) = true := by rw [beq_iff_eq]; exact hb8
            clear hb8
            go_wp2_with fail
            go_meet
            exact ⟨congrArg Value.bool (unhide HD).symm, rfl⟩
          · have HD := hide (show decide (bh = 8 ∨ (bh = 16 ∧ k + 1 < xs.length)) = true by rw [decide_eq_true_eq]; exact .inr ⟨hb16, hk2⟩)
            have e8 : (bh == 8) = false := by rw [beq_eq_false_iff_ne]; omega
            have e16 : (bh == 16) = true := by rw [beq_iff_eq]; exact hb16
            have e3 : decide ((k : Int) < (xs.length : Int) - 1) = true := by rw [decide_eq_true_eq]; omega
            clear hb16 hk2
            go_wp2_with fail
            go_meet
            exact ⟨congrArg Value.bool (unhide HD).symm, rfl⟩
          · have HD := hide (show decide (bh = 8 ∨ (bh = 16 ∧ k + 1 < xs.length)) = false by rw [decide_eq_false_iff_not]; omega)
            have e8 : (bh == 8) = false := by rw [beq_eq_false_iff_ne]; exact hn8
            have e16 : (bh == 16) = false := by rw [beq_eq_false_iff_ne]; exact hn16
            clear hn8 hn16
            go_wp2_with fail
            go_meet
            exact ⟨congrArg Value.bool (unhide HD).symm, rfl⟩
          · have HD := hide (show decide (bh = 8 ∨ (bh = 16 ∧ k + 1 < xs.length)) = false by rw [decide_eq_false_iff_not]; omega)
            have e8 : (bh == 8) = false := by rw [beq_eq_false_iff_ne]; omega
            have e16 : (bh == 16) = true := by rw [beq_iff_eq]; exact hb16
            have e3 : decide ((k : Int) < (xs.length : Int) - 1) = false := by rw [decide_eq_false_iff_not]; omega
            clear hb16 hk2
            go_wp2_with fail
            go_meet
            exact ⟨congrArg Value.bool (unhide HD).symm, rfl⟩
        case rest =>
          obtain ⟨rfl, hwc⟩ := hcut
          have hwc2 := hwc.symm
          clear hwc X1c4
          subst hwc2
          cases hd5 : decide (bh = 8 ∨ (bh = 16 ∧ k + 1 < xs.length))
          case true =>
            have hc : lgCode sg k (lgAt sg k) = 8 := by
              unfold lgCode
              rw [unhide HFX, unhide HSL, ← (unhide HWB).2, if_pos (of_decide_eq_true hd5)]
            have HD := hide ((unhide HGO).bad (by rw [unhide HSL]; exact hlt) (by rw [hc]; decide))
            rw [hc] at HD
            have T1 := hide (unhide S1).2.2.2.2
            clear hc hd5
            go_wp2_with fail
            simp only [Exit.jump]
            go_wp2_with fail
            go_ret
            rw [unhide HD]
            exact ⟨rfl, fun h => absurd h (by decide), unhide T1⟩
          have HA : Hid (¬ ((frF (sg.getD k default)).2.2 = 8 ∨ ((frF (sg.getD k default)).2.2 = 16 ∧ k + 1 < sg.length))) := by
            rw [unhide HFX, ← (unhide HWB).2, unhide HSL]
            exact hide (of_decide_eq_false hd5)
          clear hd5
          go_wp2_with fail
          go_cut [53] (fun s wx => s = .bool (decide (0 < k ∧ plcP fn ≠ plcP (sg.getD (k - 1) default).n + 1)) ∧ ∃ n, wx = w1.drewN n)
          case first =>
            rcases Nat.eq_zero_or_pos k with hk00 | hkp
            · have HD := hide (show decide (0 < k ∧ plcP fn ≠ plcP (sg.getD (k - 1) default).n + 1) = false by rw [decide_eq_false_iff_not]; omega)
              have p0d : decide (0 < k) = false := by rw [decide_eq_false_iff_not]; omega
              clear hk00
              go_quiet (fail)
              go_wp2_with fail
              go_meet
              exact ⟨congrArg Value.bool (unhide HD).symm, nq, rfl⟩
            · obtain ⟨kp, hkp1⟩ : ∃ kp : Nat, kp + 1 = k := ⟨k - 1, by omega⟩
              have HKP := hide hkp1
              have hki : (k : Int) - 1 = (kp : Int) := by omega
              have mk : IntKind.i64.wrap (kp : Int) = (kp : Int) := wrapSg _ (by omega) (by omega)
              have hkpl : kp < xs.length := by omega
              have hkpi : (kp : Int) < (xs.length : Int) := by omega
              have hkpz : (0 : Int) ≤ (kp : Int) := by omega
              have hkpd : decide (0 < k) = true := by simpa using hkp
              have x0 := (unhide X1).cell 0 rfl
              have l4 := (unhide S1).1.cell 4 rfl
              obtain ⟨g', hg1, _, _, hcp⟩ := unhide HCELL kp hkpl
              cases hg1
              have p0 : w1.cell? ⟨g, kp * 5, none⟩ = some (.string (xs.getD kp default).1.n) := ((unhide S1).2.2.2.2.cell (p := ⟨g, kp * 5, none⟩) hgl hgne).trans (by have := hcp 0 _ rfl; rwa [Nat.add_zero] at this)
              have hpn := (unhide HSZ _ (show xs.getD kp default ∈ xs by rw [List.getD_eq_getElem?_getD, List.getElem?_eq_getElem hkpl]; exact List.getElem_mem _)).1
              have HPX : Hid (sg.getD kp default = (xs.getD kp default).1) := by
                rw [unhide HSG, List.getD_eq_getElem?_getD, List.getElem?_map, List.getD_eq_getElem?_getD, List.getElem?_eq_getElem hkpl]; exact hide rfl
              have HEQ : Hid (decide (0 < k ∧ plcP fn ≠ plcP (sg.getD (k - 1) default).n + 1) = (plcP fn != plcP (xs.getD kp default).1.n + 1)) := by
                rw [show k - 1 = kp by omega, unhide HPX]
                exact hide (by rw [Bool.eq_iff_iff]; simp [hkp])
              clear hcp hkp1 HKP
              generalize (xs.getD kp default).1 = pf at *
              obtain ⟨pn, pd, ps⟩ := pf
              dsimp only at p0 hpn HEQ
              have r1 := plc_range fn
              have r2 := plc_range pn
              have m2 := wrapSg (plcP pn + 1) (by omega) (by omega)
              have C1 := hide (fun wx => segmentPlace_any fn wx hns)
              have C2 := hide (fun wx => segmentPlace_any pn wx hpn)
              generalize plcP fn = pl1 at *
              generalize plcP pn = pl2 at *
              go_quiet (first | (go_at_call_of 78 (Value.string fn); exact Calls.quiet_of (unhide C1 _)) | (go_at_call 78; exact Calls.quiet_of (unhide C2 _)))
              go_wp2_with fail
              go_meet
              exact ⟨congrArg Value.bool (unhide HEQ).symm, nq, rfl⟩
          case rest =>
            obtain ⟨rfl, n2, rfl⟩ := hcut
            have S2 := hide ((unhide S1).below (below_drewN (Below.refl _ w1) n2))
            have X2 := hide ((unhide X1).drewN n2)
            have F2 := hide ((unhide F1).drewN n2)
            clear S1 X1 F1
            generalize w1.drewN n2 = w2 at *
            cases hd7 : decide (0 < k ∧ plcP fn ≠ plcP (sg.getD (k - 1) default).n + 1)
            case true =>
              have hc : lgCode sg k (lgAt sg k) = 3 := by
                unfold lgCode
                rw [if_neg (unhide HA), unhide HFX, if_pos (of_decide_eq_true hd7)]
              have HD := hide ((unhide HGO).bad (by rw [unhide HSL]; exact hlt) (by rw [hc]; decide))
              rw [hc] at HD
              have T1 := hide (unhide S2).2.2.2.2
              clear hc hd7
              go_wp2_with fail
              simp only [Exit.jump]
              go_wp2_with fail
              go_ret
              rw [unhide HD]
              exact ⟨rfl, fun h => absurd h (by decide), unhide T1⟩
            have HB7 : Hid (¬ (0 < k ∧ plcP (sg.getD k default).n ≠ plcP (sg.getD (k - 1) default).n + 1)) := by
              rw [unhide HFX]; exact hide (of_decide_eq_false hd7)
            clear hd7
            have HTL : Hid (Tl w lb sb (.slice (some ⟨g, 0, none⟩) xs.length gc) (lgAt sg k) rv nv fn fd wh w2) := hide ⟨unhide S2, (unhide X2).cell 0 rfl, (unhide X2).cell 1 rfl, (unhide X2).cell 3 rfl, (unhide X2).1, by omega, hlb, fun j hj e => by have := unhide HNB j hj; omega⟩
            have hfl : fl = (frF ⟨fn, fd, fs⟩).1.length := by
              have := (unhide F2).1
              rcases own_shape (unhide F2) with ⟨h1, h2⟩ | ⟨g1, c1, h1, _⟩
              · cases h1; simpa using h2.symm
              · cases h1; simp
            have HFL := hide hfl
            clear hfl
            have x2 := (unhide X2).cell 2 rfl
            rcases Nat.eq_zero_or_pos fl with hf0 | hfp
            · have HEMP : Hid ((frF ⟨fn, fd, fs⟩).1 = []) := hide (List.eq_nil_of_length_eq_zero (by rw [← unhide HFL]; exact hf0))
              have e0 : ((fl : Int) == 0) = true := by rw [beq_iff_eq]; omega
              by_cases hlast : k + 1 = xs.length
              · have e1 : ((k : Int) == (xs.length : Int) - 1) = true := by rw [beq_iff_eq]; omega
                have hc : lgCode sg k (lgAt sg k) = 0 := by
                  unfold lgCode
                  rw [if_neg (unhide HA), if_neg (unhide HB7), unhide HFX, if_pos (unhide HEMP), if_pos (by rw [unhide HSL]; exact hlast)]
                have HC := hide hc
                clear hc hf0 hlast
                go_wp2_with fail
                go_step3
                exact ⟨rfl, frame_q rfl, unhide HTL, unhide HC, unhide HEMP⟩
              · have e1 : ((k : Int) == (xs.length : Int) - 1) = false := by rw [beq_eq_false_iff_ne]; omega
                have hc : lgCode sg k (lgAt sg k) = 3 := by
                  unfold lgCode
                  rw [if_neg (unhide HA), if_neg (unhide HB7), unhide HFX, if_pos (unhide HEMP), if_neg (by rw [unhide HSL]; exact hlast)]
                have HD := hide ((unhide HGO).bad (by rw [unhide HSL]; exact hlt) (by rw [hc]; decide))
                rw [hc] at HD
                have x0 := (unhide X2).cell 0 rfl
                have x1 := (unhide X2).cell 1 rfl
                have x3 := (unhide X2).cell 3 rfl
                have x4 := (unhide X2).cell 4 rfl
                have HH := hide (headed_any fn (fd.size : Int) (.slice fa fl fc) (wh : Int) bh _ B w2 (unhide F2) (by rw [List.length_map, unhide HEMP]; simp) (by rw [unhide HEMP]; simp))
                have T1 := hide (unhide S2).2.2.2.2
                have hq : hdB ((frF ⟨fn, fd, fs⟩).1.map strOfNums) = false := by rw [unhide HEMP]; simp [hdB]
                rw [hq] at HH
                clear hc hf0 hlast hq
                go_wp2_with fail
                refine (unhide HH).mono ?_
                rintro e w3 ⟨rfl, hb3⟩
                have T3 := hide ((unhide T1).trans (T' := fun _ => False) (Touch.ofBelow hb3) (fun _ _ h => h.elim))
                clear hb3 x0 x1 x2 x3 x4
                go_wp2_with fail
                simp only [Exit.jump]
                go_wp2_with fail
                go_ret
                rw [unhide HD]
                exact ⟨rfl, fun h => absurd h (by decide), unhide T3⟩
            · have e0 : ((fl : Int) == 0) = false := by rw [beq_eq_false_iff_ne]; omega
              have HNE : Hid (¬ (frF ⟨fn, fd, fs⟩).1 = []) := hide (fun h => by have := unhide HFL; rw [h] at this; simp at this; omega)
              have x0 := (unhide X2).cell 0 rfl
              have x1 := (unhide X2).cell 1 rfl
              have x3 := (unhide X2).cell 3 rfl
              have x4 := (unhide X2).cell 4 rfl
              have hlen : (frF ⟨fn, fd, fs⟩).1.length ≤ 3000 := Nat.le_trans (frF_len ⟨fn, fd, fs⟩) hds
              have hlen2 : ((frF ⟨fn, fd, fs⟩).1.map strOfNums).length ≤ 1048576 := by rw [List.length_map]; omega
              have hget0 : ((frF ⟨fn, fd, fs⟩).1.map strOfNums).getD 0 ByteArray.empty = strOfNums ((frF ⟨fn, fd, fs⟩).1.getD 0 []) := by
                have hp0 : 0 < (frF ⟨fn, fd, fs⟩).1.length := by rw [← unhide HFL]; exact hfp
                rw [List.getD_eq_getElem?_getD, List.getElem?_map, List.getD_eq_getElem?_getD, List.getElem?_eq_getElem hp0]; rfl
              have hs0 := frF_each ⟨fn, fd, fs⟩ 0
              have hr0 := frF_range ⟨fn, fd, fs⟩ 0
              have HH := hide (headed_any fn (fd.size : Int) (.slice fa fl fc) (wh : Int) bh _ B w2 (unhide F2) hlen2 (by rw [hget0, strOfNums_size]; omega))
              have HNUM := hide (fun wx (h : OwnS B wx (.slice fa fl fc) ((frF ⟨fn, fd, fs⟩).1.map strOfNums)) => number_seg fn (fd.size : Int) (.slice fa fl fc) (wh : Int) bh _ B wx h (by rw [List.length_map, ← unhide HFL]; exact hfp) (by rw [hget0, strOfNums_size]; omega) hlen2)
              have HREC := hide (fun wx (h : OwnS B wx (.slice fa fl fc) ((frF ⟨fn, fd, fs⟩).1.map strOfNums)) => records_any fn (fd.size : Int) (.slice fa fl fc) (wh : Int) bh _ B wx h (by rw [List.length_map, ← unhide HFL]; exact hfp) hlen2)
              have hhd : hdB ((frF ⟨fn, fd, fs⟩).1.map strOfNums) = decide (((frF ⟨fn, fd, fs⟩).1.getD 0 []).length = 4) := by
                unfold hdB
                rw [hget0, strOfNums_size, List.length_map, ← unhide HFL, decide_eq_true hfp]; rfl
              have T1 := hide (unhide S2).2.2.2.2
              have HLN := hide (And.intro hlen (And.intro hget0 (And.intro hs0 hr0)))
              rw [hhd] at HH
              clear hlen hlen2 hget0 hs0 hr0 hhd
              go_wp2_with fail
              refine (unhide HH).mono ?_
              rintro e w3 ⟨rfl, hb3⟩
              have S3 := hide ((unhide S2).below hb3)
              have X3 := hide ((unhide X2).below hb3)
              have F3 := hide ((unhide F2).below hb3)
              clear hb3 x0 x1 x2 x3 x4 S2 X2 F2 T1 HTL HH
              have T3 := hide (unhide S3).2.2.2.2
              cases h4 : decide (((frF ⟨fn, fd, fs⟩).1.getD 0 []).length = 4)
              case false =>
                have hc : lgCode sg k (lgAt sg k) = 3 := by
                  unfold lgCode
                  rw [if_neg (unhide HA), if_neg (unhide HB7), unhide HFX, if_neg (unhide HNE), if_pos (of_decide_eq_false h4)]
                have HD := hide ((unhide HGO).bad (by rw [unhide HSL]; exact hlt) (by rw [hc]; decide))
                rw [hc] at HD
                clear hc h4
                go_wp2_with fail
                simp only [Exit.jump]
                go_wp2_with fail
                go_ret
                rw [unhide HD]
                exact ⟨rfl, fun h => absurd h (by decide), unhide T3⟩
              obtain ⟨hn1, hn2, hn3⟩ := head_num (unhide HLN).2.2.2 (of_decide_eq_true h4)
              rw [(unhide HLN).2.1] at HNUM
              rw [hn1] at HNUM
              have HH4 := hide (of_decide_eq_true h4)
              clear h4 hn1
              obtain ⟨num, hnum⟩ : ∃ num, num = dec ((frF ⟨fn, fd, fs⟩).1.getD 0 []) := ⟨_, rfl⟩
              rw [← hnum] at HNUM hn2 hn3
              have HNM := hide hnum
              clear hnum
              go_upto_if 67 with fail
              go_cut [67] (fun s wx => LgS w lb (.slice (some ⟨g, 0, none⟩) xs.length gc) wx ⟨if k = 0 then num else (lgAt sg k).first, (lgAt sg k).recs, (lgAt sg k).names, (lgAt sg k).torn⟩ rv nv ∧ Blk wx sb [.string fn, .int .i64 (fd.size : Int), .slice fa fl fc, .int .i64 (wh : Int), .int .i64 bh] ∧ OwnS B wx (.slice fa fl fc) ((frF ⟨fn, fd, fs⟩).1.map strOfNums))
              case first =>
                rcases Nat.eq_zero_or_pos k with hk00 | hkp
                · have e1 : ((k : Int) == 0) = true := by rw [beq_iff_eq]; omega
                  have HIF := hide (show (if k = 0 then num else (lgAt sg k).first) = num from if_pos hk00)
                  have x0 := (unhide X3).cell 0 rfl
                  have x1 := (unhide X3).cell 1 rfl
                  have x2 := (unhide X3).cell 2 rfl
                  have x3 := (unhide X3).cell 3 rfl
                  have x4 := (unhide X3).cell 4 rfl
                  clear hk00
                  go_wp2_with fail
                  refine (unhide HNUM w3 (unhide F3)).mono ?_
                  rintro e w4 ⟨rfl, hb4⟩
                  have S4 := hide ((unhide S3).below hb4)
                  have X4 := hide ((unhide X3).below hb4)
                  have F4 := hide ((unhide F3).below hb4)
                  have y0 := (unhide S4).1.cell 0 rfl
                  have f0 := (unhide S4).1.fro 0
                  have ht := (Touch.refl (fun k => k = lb) w4).setCell ⟨lb, 0, none⟩ (.int .i64 num) (fun _ => rfl)
                  have S5 := hide ((unhide S4).setFirst hlb num)
                  have X5 := hide ((unhide X4).kept ht (fun e => by omega))
                  have F5 := hide ((unhide F4).kept ht (fun j hj e => unhide HXN j hj e))
                  clear hb4 x0 x1 x2 x3 x4 S4 X4 F4 ht
                  go_wp2_with fail
                  go_meet
                  rw [unhide HIF]
                  exact ⟨unhide S5, unhide X5, unhide F5⟩
                · have e1 : ((k : Int) == 0) = false := by rw [beq_eq_false_iff_ne]; omega
                  have HIF := hide (show (if k = 0 then num else (lgAt sg k).first) = (lgAt sg k).first from if_neg (by omega))
                  clear hkp
                  go_wp2_with fail
                  go_meet
                  rw [unhide HIF]
                  exact ⟨unhide S3, unhide X3, unhide F3⟩
              case rest =>
                obtain ⟨hS4, hX4, hF4⟩ := hcut
                have S4 := hide hS4
                have X4 := hide hX4
                have F4 := hide hF4
                clear hS4 hX4 hF4 S3 X3 F3 T3
                generalize wc = w4 at *
                have hf1 : 0 ≤ (if k = 0 then num else (lgAt sg k).first) ∧ (if k = 0 then num else (lgAt sg k).first) < 4294967296 := by
                  split
                  · exact ⟨hn2, hn3⟩
                  · exact unhide HBF
                have HF1 : Hid (k = 0 → (if k = 0 then num else (lgAt sg k).first) = num) := hide (fun h => if_pos h)
                have HF2 : Hid (0 < k → (if k = 0 then num else (lgAt sg k).first) = (lgAt sg k).first) := hide (fun h => if_neg (by omega))
                have HF3 : Hid ((if (frF ⟨fn, fd, fs⟩).1 = [] then (lgAt sg k).first else if k = 0 then dec ((frF ⟨fn, fd, fs⟩).1.getD 0 []) else (lgAt sg k).first) = (if k = 0 then num else (lgAt sg k).first)) := hide (by rw [if_neg (unhide HNE), unhide HNM])
                generalize (if k = 0 then num else (lgAt sg k).first) = f1 at *
                have hrl := lgAt_recs sg (fun f hf => by
                  rw [unhide HSG] at hf
                  obtain ⟨x, hx1, rfl⟩ := List.mem_map.1 hf
                  exact (unhide HSZ x hx1).2) k (by rw [unhide HSL]; omega)
                have hrl2 : (lgAt sg k).recs.length ≤ 24000 := by omega
                have HR0 : Hid (k = 0 → (lgAt sg k).recs.length = 0) := hide (fun h => by subst h; rfl)
                clear hrl
                obtain ⟨ra, rc, rfl⟩ : ∃ ra rc, rv = .slice ra (lgAt sg k).recs.length rc := by
                  rcases own_shape (unhide S4).2.1 with ⟨h, h0⟩ | ⟨g, c, h, _⟩
                  · exact ⟨none, 0, by rw [h]; exact congrArg (fun n => Value.slice none n 0) h0.symm⟩
                  · exact ⟨_, _, h⟩
                obtain ⟨na, nn, nc, rfl⟩ : ∃ na nn nc, nv = .slice na nn nc := by
                  rcases own_shape (unhide S4).2.2.1 with ⟨h, _⟩ | ⟨g, c, h, _⟩
                  · exact ⟨_, _, _, h⟩
                  · exact ⟨_, _, _, h⟩
                generalize hL : lgAt sg k = L at *
                have HL := hide hL
                clear hL
                have HNEX := hide (fun wx => next_log f1 ra L.recs.length rc (.slice na nn nc) (.slice (some ⟨g, 0, none⟩) xs.length gc) L.torn wx hf1.1 hf1.2 (by omega) ⟨_, _, _, rfl⟩ ⟨_, _, _, rfl⟩)
                go_wp2_with fail
                go_cut [80] (fun s wx => s = .bool (num != f1 + (L.recs.length : Int)) ∧ Below w4.heap.size w4 wx)
                case first =>
                  have zl := (unhide S4).1.1
                  have zs := (unhide X4).1
                  have r0 := Wb.cell ((unhide S4).1.cell 0 rfl) zl
                  have r1 := Wb.cell ((unhide S4).1.cell 1 rfl) zl
                  have r2 := Wb.cell ((unhide S4).1.cell 2 rfl) zl
                  have r3 := Wb.cell ((unhide S4).1.cell 3 rfl) zl
                  have r4 := Wb.cell ((unhide S4).1.cell 4 rfl) zl
                  have s0 := Wb.cell ((unhide X4).cell 0 rfl) zs
                  have s1 := Wb.cell ((unhide X4).cell 1 rfl) zs
                  have s2 := Wb.cell ((unhide X4).cell 2 rfl) zs
                  have s3 := Wb.cell ((unhide X4).cell 3 rfl) zs
                  have s4 := Wb.cell ((unhide X4).cell 4 rfl) zs
                  have HN4 := hide (fun (p : Wb w4) => unhide HNUM p.at_ ((unhide F4).below p.below))
                  refine wp_region_wb (by kernel_rfl) (by kernel_rfl) ?_
                  repeat (go_big_quiet_step (first | (go_at_call 81; exact wb_of (unhide HN4 _)) | (go_at_call 82; exact wb_of (unhide HNEX _))))
                  refine wpQuiet_nil ?_
                  intro _ hw'
                  obtain ⟨⟨wz, hbz⟩, rfl⟩ := hw'
                  go_wp2_with fail
                  go_meet
                  exact ⟨rfl, hbz⟩
                case rest =>
                  obtain ⟨rfl, hb5⟩ := hcut
                  have S5 := hide ((unhide S4).below hb5)
                  have X5 := hide ((unhide X4).below hb5)
                  have F5 := hide ((unhide F4).below hb5)
                  clear hb5 S4 X4 F4
                  generalize wc = w5 at *
                  cases hne : (num != f1 + (L.recs.length : Int))
                  case true =>
                    have hne2 : num ≠ f1 + (L.recs.length : Int) := by simpa using hne
                    have hkp : 0 < k := by
                      rcases Nat.eq_zero_or_pos k with h | h
                      · have h1 := unhide HF1 h
                        have h2 := unhide HR0 h
                        omega
                      · exact h
                    have hc : lgCode sg k L = 3 := by
                      unfold lgCode
                      rw [if_neg (unhide HA), if_neg (unhide HB7), unhide HFX, if_neg (unhide HNE), if_neg (fun h => h (unhide HH4)), if_pos ⟨hkp, by rw [← unhide HNM, ← unhide HF2 hkp]; exact hne2⟩]
                    have HD := hide ((unhide HGO).bad (by rw [unhide HSL]; exact hlt) (by rw [unhide HL, hc]; decide))
                    rw [unhide HL, hc] at HD
                    have T5 := hide (unhide S5).2.2.2.2
                    clear hc hne2 hkp hne
                    go_wp2_with fail
                    simp only [Exit.jump]
                    go_wp2_with fail
                    go_ret
                    rw [unhide HD]
                    exact ⟨rfl, fun h => absurd h (by decide), unhide T5⟩
                  have HEQ : Hid (num = f1 + (L.recs.length : Int)) := hide (by simpa using hne)
                  clear hne
                  have HNX : Hid (lgGood sg (k + 1) ∧ lgAt sg (k + 1) = ⟨f1, L.recs ++ ((frF ⟨fn, fd, fs⟩).1.drop 1).map strOfNums, L.names ++ [fn], (fd.size : Int) - (wh : Int)⟩ ∧ 0 ≤ (lgAt sg (k + 1)).first ∧ (lgAt sg (k + 1)).first < 4294967296) := by
                    have hc : lgCode sg k L = 0 := by
                      unfold lgCode
                      rw [if_neg (unhide HA), if_neg (unhide HB7), unhide HFX, if_neg (unhide HNE), if_neg (fun h => h (unhide HH4)), if_neg (fun h => h.2 (by rw [← unhide HNM, ← unhide HF2 h.1]; exact unhide HEQ))]
                    have hq : lgAt sg (k + 1) = ⟨f1, L.recs ++ ((frF ⟨fn, fd, fs⟩).1.drop 1).map strOfNums, L.names ++ [fn], (fd.size : Int) - (wh : Int)⟩ := by
                      show lgNext sg k (lgAt sg k) = _
                      unfold lgNext
                      rw [unhide HL, unhide HFX, unhide HF3, (unhide HWB).1]
                    rw [hq]
                    exact hide ⟨(unhide HGO).next (by rw [unhide HSL]; exact hlt) (by rw [unhide HL]; exact hc), rfl, hf1⟩
                  have hml : ((frF ⟨fn, fd, fs⟩).1.map strOfNums).drop 1 = ((frF ⟨fn, fd, fs⟩).1.drop 1).map strOfNums := by rw [List.map_drop]
                  have htl : (((frF ⟨fn, fd, fs⟩).1.drop 1).map strOfNums).length ≤ 3000 := by rw [List.length_map, List.length_drop]; have := (unhide HLN).1; omega
                  rw [hml] at HREC
                  clear hml
                  generalize ((frF ⟨fn, fd, fs⟩).1.drop 1).map strOfNums = ts at *
                  go_wp2_with fail
                  go_cut [89] (fun s wx => ∃ ra' rn' rc', LgS w lb (.slice (some ⟨g, 0, none⟩) xs.length gc) wx ⟨f1, L.recs ++ ts, L.names, L.torn⟩ (.slice ra' rn' rc') (.slice na nn nc) ∧ Blk wx sb [.string fn, .int .i64 (fd.size : Int), .slice fa fl fc, .int .i64 (wh : Int), .int .i64 bh])
                  case first =>
                    have l1 := (unhide S5).1.cell 1 rfl
                    have x0 := (unhide X5).cell 0 rfl
                    have x1 := (unhide X5).cell 1 rfl
                    have x2 := (unhide X5).cell 2 rfl
                    have x3 := (unhide X5).cell 3 rfl
                    have x4 := (unhide X5).cell 4 rfl
                    have hb0 := below_drewN (Below.refl w5.heap.size w5) 1
                    have S5d := hide ((unhide S5).below hb0)
                    have X5d := hide ((unhide X5).below hb0)
                    have HC5 := hide (unhide HREC w5.drew ((unhide F5).below hb0))
                    obtain ⟨i0, hi, hz0, hz1, hz2⟩ := info_parts info9
                    clear hb0
                    go_region_law (first
                      | (refine step_append_row (by rfl) _ _ _ (by rfl) w.heap.size 9 i0 _ 1 16 Try.underlying22 hi hz0 hz1 hz2 rfl (by omega) (.slice ra L.recs.length rc) L.recs.length (L.recs.map Value.string) (by rfl) hS6.2.1 rvv ts.length (ts.map Value.string) (by rfl) hStr.rw (by simp) (by simp [Value.oneCell']) (by unfold maxLen; omega) (by omega) hS6.2.2.2.2.size ?_; intro a7 c7 w7 hown7 hgrow7 hat7; have P7 := rec_done hS6 hlb hX6 hown7 hgrow7 hat7 (by omega) (unhide HRB); have hc7 := P7.1; have hf7 := P7.2.1)
                      | (go_simp; go_at_call 83; refine (unhide HC5).mono ?_; rintro e w6 ⟨rvv, rfl, hStr, hb6⟩; have hS6 := (unhide S5d).below hb6; have hX6 := (unhide X5d).below hb6; have l1b := hS6.1.cell 1 rfl; go_simp))
                    all_goals
                      go_wp2_with fail
                      go_meet
                      exact ⟨_, _, _, P7.2.2⟩
                  case rest =>
                    obtain ⟨ra', rn', rc', hS6, hX6⟩ := hcut
                    obtain ⟨M, hM⟩ : ∃ M : Lg, M = ⟨f1, L.recs ++ ts, L.names, L.torn⟩ := ⟨_, rfl⟩
                    rw [← hM] at hS6
                    have hTl : Tl w lb sb (.slice (some ⟨g, 0, none⟩) xs.length gc) M (.slice ra' rn' rc') (.slice na nn nc) fn fd wh wc := ⟨hS6, hX6.cell 0 rfl, hX6.cell 1 rfl, hX6.cell 3 rfl, hX6.1, by omega, hlb, fun j hj e => by have := unhide HNB j hj; omega⟩
                    have HNX2 : Hid (lgGood sg (k + 1) ∧ lgAt sg (k + 1) = ⟨M.first, M.recs, M.names ++ [fn], (fd.size : Int) - (wh : Int)⟩ ∧ 0 ≤ (lgAt sg (k + 1)).first ∧ (lgAt sg (k + 1)).first < 4294967296) := by
                      rw [hM]; exact unhide HNX
                    have hnl : M.names.length ≤ 8 := by rw [hM]; show L.names.length ≤ 8; rw [unhide HNL]; omega
                    clear hS6 hX6 hM HNX S5 X5 F5
                    have HNX := HNX2
                    clear HNX2
                    generalize wc = wz at *
                    go_wp2_with fail
                    go_step3
                    have HT := hide hTl
                    have c2 := hTl.S.1.cell 2 rfl
                    have x0 := hTl.x0
                    have hlt2 := hTl.S.1.1
                    have hOd := hide (World.ownsRow.drew (hTl.S.2.2.1.alloc (.cells #[.string fn] 9)))
                    have c2a : (wz.alloc (.cells #[.string fn] 9)).cell? ⟨lb, 2, none⟩ = some (.slice na nn nc) := (((Touch.refl (fun _ => False) wz).alloc _).cell (p := ⟨lb, 2, none⟩) (by simp; omega) (fun h => h)).trans c2
                    obtain ⟨i0, hi, hz0, hz1, hz2⟩ := info_parts info9
                    clear hTl
                    go_wp2_with fail
                    go_region_law (refine step_append_lies _ (by rfl) _ _ _ (by rfl) w.heap.size 9 i0 _ 1 16 Try.underlying22 hi hz0 hz1 hz2 rfl (by omega) (.slice na nn nc) (M).names.length ((M).names.map Value.string) (by rfl) (unhide hOd) ⟨wz.heap.size, 0, none⟩ 1 1 [_] (by rfl) (by rfl) (World.news_of_block (cs := #[_]) (t := 9) (fr := (0, 0)) (heap_alloc_new wz _)) (by simp [Value.oneCell']) (by omega) (by unfold maxLen; omega) (by omega) (by have := (unhide HT).S.2.2.2.2.size; simp; omega) (wz.heap.size + 1) (by simp) ?_; intro gg capg w5 hown5 hgrow5 hat5 hlt5; have P5 := (unhide HT).named hown5 hgrow5 hat5; have hc5 := P5.1; have hf5 := P5.2.1)
                    all_goals
                      have HT5 := hide P5.2.2
                      clear P5 hc5 hf5 hown5 hgrow5 hat5 hlt5 hOd c2a c2 x0 HT
                      generalize w5.setCell ⟨lb, 2, none⟩ (.slice (some ⟨gg, 0, none⟩) ((M).names.length + 1) capg) = w6 at *
                      have y1 := (unhide HT5).x1
                      have y3 := (unhide HT5).x3
                      have z3 := (unhide HT5).S.1.cell 3 rfl
                      have f3 := (unhide HT5).S.1.fro 3
                      have HF := hide ((unhide HT5).S.setTorn (unhide HT5).llt ((fd.size : Int) - (wh : Int)))
                      clear HT5
                      go_wp2_with fail
                      try simp only [Exit.jump]
                      go_wp2_with fail
                      refine ⟨⟨k + 1, (.slice ra' rn' rc'), .slice (some ⟨gg, 0, none⟩) ((M).names.length + 1) capg, by omega, by go_num, (unhide HNX).1, ?_, (unhide HNX).2.2⟩, ?_⟩
                      · rw [(unhide HNX).2.1]; exact unhide HF
                      · simp [intOf]; omega
      · rintro a' wz ⟨⟨q, rfl⟩, hTl, hcode, hemp⟩
        have HNX : Hid (lgGood sg (k + 1) ∧ lgAt sg (k + 1) = ⟨(lgAt sg k).first, (lgAt sg k).recs, (lgAt sg k).names ++ [fn], (fd.size : Int) - (wh : Int)⟩ ∧ 0 ≤ (lgAt sg (k + 1)).first ∧ (lgAt sg (k + 1)).first < 4294967296) := by
          have hq : lgAt sg (k + 1) = ⟨(lgAt sg k).first, (lgAt sg k).recs, (lgAt sg k).names ++ [fn], (fd.size : Int) - (wh : Int)⟩ := by
            show lgNext sg k (lgAt sg k) = _
            unfold lgNext
            rw [unhide HFX, hemp, (unhide HWB).1]; simp
          rw [hq]
          exact hide ⟨(unhide HGO).next (by rw [unhide HSL]; exact hlt) hcode, rfl, unhide HBF⟩
        have hnl : (lgAt sg k).names.length ≤ 8 := by rw [unhide HNL]; omega
        clear hcode hemp
        generalize lgAt sg k = L at *
        have HT := hide hTl
        have c2 := hTl.S.1.cell 2 rfl
        have x0 := hTl.x0
        have hlt2 := hTl.S.1.1
        have hOd := hide (World.ownsRow.drew (hTl.S.2.2.1.alloc (.cells #[.string fn] 9)))
        have c2a : (wz.alloc (.cells #[.string fn] 9)).cell? ⟨lb, 2, none⟩ = some nv := (((Touch.refl (fun _ => False) wz).alloc _).cell (p := ⟨lb, 2, none⟩) (by simp; omega) (fun h => h)).trans c2
        obtain ⟨i0, hi, hz0, hz1, hz2⟩ := info_parts info9
        clear hTl
        go_wp2_with fail
        go_region_law (refine step_append_lies _ (by rfl) _ _ _ (by rfl) w.heap.size 9 i0 _ 1 16 Try.underlying22 hi hz0 hz1 hz2 rfl (by omega) nv (L).names.length ((L).names.map Value.string) (by rfl) (unhide hOd) ⟨wz.heap.size, 0, none⟩ 1 1 [_] (by rfl) (by rfl) (World.news_of_block (cs := #[_]) (t := 9) (fr := (0, 0)) (heap_alloc_new wz _)) (by simp [Value.oneCell']) (by omega) (by unfold maxLen; omega) (by omega) (by have := (unhide HT).S.2.2.2.2.size; simp; omega) (wz.heap.size + 1) (by simp) ?_; intro gg capg w5 hown5 hgrow5 hat5 hlt5; have P5 := (unhide HT).named hown5 hgrow5 hat5; have hc5 := P5.1; have hf5 := P5.2.1)
        all_goals
          have HT5 := hide P5.2.2
          clear P5 hc5 hf5 hown5 hgrow5 hat5 hlt5 hOd c2a c2 x0 HT
          generalize w5.setCell ⟨lb, 2, none⟩ (.slice (some ⟨gg, 0, none⟩) ((L).names.length + 1) capg) = w6 at *
          have y1 := (unhide HT5).x1
          have y3 := (unhide HT5).x3
          have z3 := (unhide HT5).S.1.cell 3 rfl
          have f3 := (unhide HT5).S.1.fro 3
          have HF := hide ((unhide HT5).S.setTorn (unhide HT5).llt ((fd.size : Int) - (wh : Int)))
          clear HT5
          go_wp2_with fail
          try simp only [Exit.jump]
          go_wp2_with fail
          refine ⟨⟨k + 1, rv, .slice (some ⟨gg, 0, none⟩) ((L).names.length + 1) capg, by omega, by go_num, (unhide HNX).1, ?_, (unhide HNX).2.2⟩, ?_⟩
          · rw [(unhide HNX).2.1]; exact unhide HF
          · simp [intOf]; omega
    · obtain rfl : k = xs.length := by omega
      have HD := hide ((unhide HGO).done (by rw [unhide HSL]; omega))
      go_wp2_with fail
      go_ret
      rw [unhide HD]
      exact ⟨rfl, fun _ => ⟨rv, nv, unhide HS⟩, (unhide HS).2.2.2.2⟩
end Go.Proofs.Ytpdjfjapdmopoaa
namespace Go.Proofs.Ytpdjfjapdmopoaa
open Go.ChangeShapes Go.WideShapes Go.ChangeAt Go.RowKit
set_option linter.unusedVariables false
set_option linter.unusedSimpArgs false

theorem segs_len (l : List Fl) (h : l.length ≤ 8) : (segsP l).length ≤ 8 := Nat.le_trans (List.length_filter_le _ _) h
theorem disk_len {room : Int} {l : List Fl} (h : diskB room l = true) : l.length ≤ 8 := by
  unfold diskB at h
  simp only [Bool.and_eq_true, decide_eq_true_eq] at h
  exact h.1.1.2
theorem lgRun_bad (sg : List Fl) : ∀ n i, sg.length - i = n → (lgRun sg i).2 ≠ 0 → lgRun sg i = (lg0, (lgRun sg i).2) := by
  intro n
  induction n using Nat.strongRecOn with
  | ind n ih =>
    intro i hi h
    rw [lgRun] at h ⊢
    by_cases h1 : i < sg.length
    · rw [dif_pos h1] at h ⊢
      by_cases h2 : lgCode sg i (lgAt sg i) = 0
      · rw [if_pos h2] at h ⊢
        exact ih (sg.length - (i + 1)) (by omega) (i + 1) rfl h
      · rw [if_neg h2]
    · rw [dif_neg h1] at h
      exact absurd rfl h
/-- What reading answers beside the code: texts of its own. -/
def WalA (B : Nat) (w' : World) (L : Lg) (rv nv : Value) : Prop := OwnS B w' rv L.recs ∧ OwnS B w' nv L.names ∧ (∀ k, rv.ownBlock = some k → nv.ownBlock ≠ some k) ∧ (∃ a c, rv = .slice a L.recs.length c) ∧ ∃ a c, nv = .slice a L.names.length c
theorem ownS_form {B : Nat} {w : World} {v : Value} {l : List ByteArray} (h : OwnS B w v l) : ∃ a c, v = .slice a l.length c := by
  rcases own_shape h with ⟨rfl, h0⟩ | ⟨g, c, rfl, _⟩
  · exact ⟨none, 0, congrArg (fun n => Value.slice none n 0) h0.symm⟩
  · exact ⟨_, _, rfl⟩
theorem WalA.none (B : Nat) (w' : World) : WalA B w' lg0 (.slice none 0 0) (.slice none 0 0) := ⟨OwnS.nil _ _, OwnS.nil _ _, fun k hk => (by cases hk), ⟨_, _, rfl⟩, _, _, rfl⟩
theorem WalA.kept {T : Nat → Prop} {B : Nat} {w w' : World} {L : Lg} {rv nv : Value} (h : WalA B w L rv nv) (ht : Touch T w w') (hT : ∀ k, T k → k < B) : WalA B w' L rv nv :=
  ⟨h.1.kept ht (fun k hk e => by have := (h.1.lt k hk).1; have := hT k e; omega), h.2.1.kept ht (fun k hk e => by have := (h.2.1.lt k hk).1; have := hT k e; omega), h.2.2⟩
theorem WalA.below {B : Nat} {w w' : World} {L : Lg} {rv nv : Value} (h : WalA B w L rv nv) (hb : Below w.heap.size w w') : WalA B w' L rv nv := ⟨h.1.below hb, h.2.1.below hb, h.2.2⟩
theorem WalA.mono {B B' : Nat} {w : World} {L : Lg} {rv nv : Value} (h : WalA B w L rv nv) (hB : B' ≤ B) : WalA B' w L rv nv := ⟨h.1.mono hB, h.2.1.mono hB, h.2.2⟩

set_option maxRecDepth 100000 in
set_option maxHeartbeats 2000000 in
theorem readLog_any (room : Int) (v : Value) (l : List Fl) (w : World) (h : Fls w v l) (hs : Small l) :
    Calls Try.prog 47 #[.agg #[.int .i64 room, v]] w fun e w' => ∃ rv nv ga gn gc, e = .returned (.tuple #[.agg #[.int .i64 (walOut room l).1.first, rv, nv, .int .i64 (walOut room l).1.torn, .slice ga gn gc], .int .i64 (walOut room l).2]) ∧ WalA (w.heap.size + 2) w' (walOut room l).1 rv nv ∧ Below w.heap.size w w' := by
  have HF := hide h
  have HS := hide hs
  obtain ⟨a, cap, rfl, hn, hm, hc⟩ := h
  clear hc hm hn hs
  have B0 := hide (((Below.refl w.heap.size w).alloc (Nat.le_refl _) (.cells #[.int .i64 room, .slice a l.length cap] 41)).alloc (by simp) (.cells #[.int .i64 0, .slice none 0 0, .slice none 0 0, .int .i64 0, .slice none 0 0] 95))
  have X0 := hide ((Blk.new w #[.int .i64 room, .slice a l.length cap] 41 w.heap.size rfl).alloc (.cells #[.int .i64 0, .slice none 0 0, .slice none 0 0, .int .i64 0, .slice none 0 0] 95))
  have R0 := hide (Blk.new (w.alloc (.cells #[.int .i64 room, .slice a l.length cap] 41)) #[.int .i64 0, .slice none 0 0, .slice none 0 0, .int .i64 0, .slice none 0 0] 95 (w.heap.size + 1) (by simp))
  have Z0 : w.heap.size + 2 ≤ ((w.alloc (.cells #[.int .i64 room, .slice a l.length cap] 41)).alloc (.cells #[.int .i64 0, .slice none 0 0, .slice none 0 0, .int .i64 0, .slice none 0 0] 95)).heap.size := by simp
  go_enter Try.func47, Try.ntmps47
  go_wp2_with fail
  generalize (w.alloc (.cells #[.int .i64 room, .slice a l.length cap] 41)).alloc (.cells #[.int .i64 0, .slice none 0 0, .slice none 0 0, .int .i64 0, .slice none 0 0] 95) = w0 at *
  refine (implDiskOK_any room _ l w0 ((unhide HF).below (unhide B0)) (unhide HS)).mono ?_
  rintro e w1 ⟨rfl, hb1⟩
  have B1 := hide ((unhide B0).trans (hb1.mono (unhide B0).size))
  have X1 := hide ((unhide X0).below hb1)
  have R1 := hide ((unhide R0).below hb1)
  have Z1 : w.heap.size + 2 ≤ w1.heap.size := Nat.le_trans Z0 hb1.size
  clear hb1 B0 X0 R0 Z0
  cases hd : diskB room l
  · have HW := hide (show walOut room l = (lg0, 1) by unfold walOut; rw [hd]; rfl)
    have r0 := (unhide R1).cell 0 rfl
    have r1 := (unhide R1).cell 1 rfl
    have r2 := (unhide R1).cell 2 rfl
    have r3 := (unhide R1).cell 3 rfl
    have r4 := (unhide R1).cell 4 rfl
    have f0 := (unhide R1).fro 0
    have f1 := (unhide R1).fro 1
    have f2 := (unhide R1).fro 2
    have f3 := (unhide R1).fro 3
    have f4 := (unhide R1).fro 4
    have R2 := hide ((((((unhide R1).set 0 (.int .i64 0) (by simp)).set 1 (.slice none 0 0) (by simp)).set 2 (.slice none 0 0) (by simp)).set 3 (.int .i64 0) (by simp)).set 4 (.slice none 0 0) (by simp))
    have B2 := hide ((((((unhide B1).setCell (p := ⟨w.heap.size + 1, 0, none⟩) (by simp) (.int .i64 0)).setCell (p := ⟨w.heap.size + 1, 1, none⟩) (by simp) (.slice none 0 0)).setCell (p := ⟨w.heap.size + 1, 2, none⟩) (by simp) (.slice none 0 0)).setCell (p := ⟨w.heap.size + 1, 3, none⟩) (by simp) (.int .i64 0)).setCell (p := ⟨w.heap.size + 1, 4, none⟩) (by simp) (.slice none 0 0))
    go_wp2_with fail
    generalize ((((w1.setCell ⟨w.heap.size + 1, 0, none⟩ (.int .i64 0)).setCell ⟨w.heap.size + 1, 1, none⟩ (.slice none 0 0)).setCell ⟨w.heap.size + 1, 2, none⟩ (.slice none 0 0)).setCell ⟨w.heap.size + 1, 3, none⟩ (.int .i64 0)).setCell ⟨w.heap.size + 1, 4, none⟩ (.slice none 0 0) = w2 at *
    have z0 := (unhide R2).cell 0 rfl
    have z1 := (unhide R2).cell 1 rfl
    have z2 := (unhide R2).cell 2 rfl
    have z3 := (unhide R2).cell 3 rfl
    have z4 := (unhide R2).cell 4 rfl
    refine bodyPost_ret (v := .tuple #[.agg #[.int .i64 0, .slice none 0 0, .slice none 0 0, .int .i64 0, .slice none 0 0], .int .i64 1]) (by simp [results, Try.results47, go_sem, z0, z1, z2, z3, z4]) rfl ?_
    rw [unhide HW]
    exact ⟨_, _, _, _, _, rfl, WalA.none _ _, unhide B2⟩
  have HD := hide hd
  have HLn := hide (disk_len hd)
  have x1 := (unhide X1).cell 1 rfl
  go_wp2_with fail
  clear x1 X1
  refine (segmentsOf_any _ l w1 ((unhide HF).below (unhide B1)) (unhide HLn) (fun i hi => ⟨((unhide HS).2.2 i).1, file_small (unhide HD) i hi⟩)).mono ?_
  rintro e w2 ⟨gv, xs, rfl, hxs, hG, hb2⟩
  obtain ⟨ga, gn, gc, rfl⟩ : ∃ ga gn gc, gv = .slice ga gn gc := by
    rcases own_shape hG.1 with ⟨h, _⟩ | ⟨g, c, h, _⟩
    · exact ⟨_, _, _, h⟩
    · exact ⟨_, _, _, h⟩
  have BA := (Below.refl w2.heap.size w2).alloc (Nat.le_refl _) (.cells #[.int .i64 0, .slice none 0 0, .slice none 0 0, .int .i64 0, .slice ga gn gc] 95)
  have B3 := hide (((unhide B1).trans (hb2.mono (unhide B1).size)).trans (BA.mono (Nat.le_trans (unhide B1).size hb2.size)))
  have R3 := hide (((unhide R1).below hb2).below BA)
  have G3 := hide (hG.below BA)
  have L3 := hide (Blk.new w2 #[.int .i64 0, .slice none 0 0, .slice none 0 0, .int .i64 0, .slice ga gn gc] 95 w2.heap.size rfl)
  have Z2 : w.heap.size + 2 ≤ w2.heap.size := Nat.le_trans Z1 hb2.size
  have HGL : Hid (∀ k, (Value.slice ga gn gc).ownBlock = some k → k < w2.heap.size) := hide (fun k hk => (World.ownsRow.lt hG.1 k hk).2)
  have HGX : Hid (∀ x ∈ xs, ∀ k, x.2.ownBlock = some k → k < w2.heap.size) := hide (fun x hx k hk => ((hG.2 x hx).lt k hk).2)
  have HXS := hide hxs
  clear hG hb2 BA R1 B1 hxs
  go_wp2_with fail
  generalize w2.alloc (.cells #[.int .i64 0, .slice none 0 0, .slice none 0 0, .int .i64 0, .slice ga gn gc] 95) = w3 at *
  generalize w2.heap.size = lb at *
  have hmem : ∀ x ∈ xs, x.1 ∈ l := fun x hx => by
    have h1 : x.1 ∈ xs.map Prod.fst := List.mem_map.2 ⟨x, hx, rfl⟩
    rw [unhide HXS] at h1
    exact (List.mem_filter.1 h1).1
  refine (read_any lb w1.heap.size (.slice ga gn gc) xs w3 (unhide G3) (unhide L3) (unhide L3).1 (by have := congrArg List.length (unhide HXS); rw [List.length_map] at this; rw [this]; exact segs_len l (unhide HLn)) (fun x hx => ⟨by
    obtain ⟨i, hi, hxi⟩ := List.getElem_of_mem (hmem x hx)
    have := ((unhide HS).2.2 i).1
    rwa [List.getD_eq_getElem?_getD, List.getElem?_eq_getElem hi, Option.getD_some, hxi] at this, seg_small (unhide HD) _ (hmem x hx)⟩) (fun k hk => by have := unhide HGL k hk; omega) (fun x hx k hk => by have := unhide HGX x hx k hk; omega)).mono ?_
  rintro e w4 ⟨rfl, hS4, hT4⟩
  clear hmem
  have HW := hide (show walOut room l = lgRun (xs.map Prod.fst) 0 by unfold walOut; rw [unhide HD, unhide HXS]; rfl)
  have B4 := hide ((unhide B3).trans (hT4.below (unhide B3).size (fun k hk e => by omega)))
  have R4 := hide ((unhide R3).kept hT4 (fun e => by omega))
  have hz3 := (unhide L3).1
  have H4 := hide hS4
  clear hS4 hT4 B3 R3 G3 L3 HXS HGL HGX
  have r0 := (unhide R4).cell 0 rfl
  have r1 := (unhide R4).cell 1 rfl
  have r2 := (unhide R4).cell 2 rfl
  have r3 := (unhide R4).cell 3 rfl
  have r4 := (unhide R4).cell 4 rfl
  have f0 := (unhide R4).fro 0
  have f1 := (unhide R4).fro 1
  have f2 := (unhide R4).fro 2
  have f3 := (unhide R4).fro 3
  have f4 := (unhide R4).fro 4
  by_cases hc0 : (lgRun (xs.map Prod.fst) 0).2 = 0
  · obtain ⟨rv, nv, hS⟩ := unhide H4 hc0
    have HWA : Hid (WalA w3.heap.size w4 (lgRun (xs.map Prod.fst) 0).1 rv nv) := hide ⟨hS.2.1, hS.2.2.1, hS.2.2.2.1, ownS_form hS.2.1, ownS_form hS.2.2.1⟩
    obtain ⟨ra, rc, rfl⟩ := (unhide HWA).2.2.2.1
    obtain ⟨na, nc, rfl⟩ := (unhide HWA).2.2.2.2
    have L4 := hide hS.1
    clear hS H4
    generalize lgRun (xs.map Prod.fst) 0 = out at *
    obtain ⟨L, cd⟩ := out
    dsimp only at hc0 HWA L4 HW ⊢
    subst hc0
    have l0 := (unhide L4).cell 0 rfl
    have l1 := (unhide L4).cell 1 rfl
    have l2 := (unhide L4).cell 2 rfl
    have l3 := (unhide L4).cell 3 rfl
    have l4 := (unhide L4).cell 4 rfl
    have R5 := hide ((((((unhide R4).set 0 (.int .i64 L.first) (by simp)).set 1 (.slice ra L.recs.length rc) (by simp)).set 2 (.slice na L.names.length nc) (by simp)).set 3 (.int .i64 L.torn) (by simp)).set 4 (.slice ga gn gc) (by simp))
    have B5 := hide ((((((unhide B4).setCell (p := ⟨w.heap.size + 1, 0, none⟩) (by simp) (.int .i64 L.first)).setCell (p := ⟨w.heap.size + 1, 1, none⟩) (by simp) (.slice ra L.recs.length rc)).setCell (p := ⟨w.heap.size + 1, 2, none⟩) (by simp) (.slice na L.names.length nc)).setCell (p := ⟨w.heap.size + 1, 3, none⟩) (by simp) (.int .i64 L.torn)).setCell (p := ⟨w.heap.size + 1, 4, none⟩) (by simp) (.slice ga gn gc))
    have T5 := ((((((Touch.refl (fun k => k = w.heap.size + 1) w4).setCell ⟨w.heap.size + 1, 0, none⟩ (.int .i64 L.first) (fun _ => rfl)).setCell ⟨w.heap.size + 1, 1, none⟩ (.slice ra L.recs.length rc) (fun _ => rfl)).setCell ⟨w.heap.size + 1, 2, none⟩ (.slice na L.names.length nc) (fun _ => rfl)).setCell ⟨w.heap.size + 1, 3, none⟩ (.int .i64 L.torn) (fun _ => rfl)).setCell ⟨w.heap.size + 1, 4, none⟩ (.slice ga gn gc) (fun _ => rfl))
    have A5 := hide (((unhide HWA).kept T5 (fun k hk => by omega)).mono (B' := w.heap.size + 2) (by omega))
    clear T5 HWA
    go_wp2_with fail
    generalize ((((w4.setCell ⟨w.heap.size + 1, 0, none⟩ (.int .i64 L.first)).setCell ⟨w.heap.size + 1, 1, none⟩ (.slice ra L.recs.length rc)).setCell ⟨w.heap.size + 1, 2, none⟩ (.slice na L.names.length nc)).setCell ⟨w.heap.size + 1, 3, none⟩ (.int .i64 L.torn)).setCell ⟨w.heap.size + 1, 4, none⟩ (.slice ga gn gc) = w5 at *
    have z0 := (unhide R5).cell 0 rfl
    have z1 := (unhide R5).cell 1 rfl
    have z2 := (unhide R5).cell 2 rfl
    have z3 := (unhide R5).cell 3 rfl
    have z4 := (unhide R5).cell 4 rfl
    refine bodyPost_ret (v := .tuple #[.agg #[.int .i64 L.first, .slice ra L.recs.length rc, .slice na L.names.length nc, .int .i64 L.torn, .slice ga gn gc], .int .i64 0]) (by simp [results, Try.results47, go_sem, z0, z1, z2, z3, z4]) rfl ?_
    rw [unhide HW]
    exact ⟨_, _, _, _, _, rfl, unhide A5, unhide B5⟩
  · have HBAD : Hid (lgRun (xs.map Prod.fst) 0 = (lg0, (lgRun (xs.map Prod.fst) 0).2)) := hide (lgRun_bad _ _ 0 rfl hc0)
    have hcb : ((lgRun (xs.map Prod.fst) 0).2 == 0) = false := by rw [beq_eq_false_iff_ne]; exact hc0
    generalize hcc : (lgRun (xs.map Prod.fst) 0).2 = cd at *
    clear hcc H4
    have R5 := hide ((((((unhide R4).set 0 (.int .i64 0) (by simp)).set 1 (.slice none 0 0) (by simp)).set 2 (.slice none 0 0) (by simp)).set 3 (.int .i64 0) (by simp)).set 4 (.slice none 0 0) (by simp))
    have B5 := hide ((((((unhide B4).setCell (p := ⟨w.heap.size + 1, 0, none⟩) (by simp) (.int .i64 0)).setCell (p := ⟨w.heap.size + 1, 1, none⟩) (by simp) (.slice none 0 0)).setCell (p := ⟨w.heap.size + 1, 2, none⟩) (by simp) (.slice none 0 0)).setCell (p := ⟨w.heap.size + 1, 3, none⟩) (by simp) (.int .i64 0)).setCell (p := ⟨w.heap.size + 1, 4, none⟩) (by simp) (.slice none 0 0))
    go_wp2_with fail
    generalize ((((w4.setCell ⟨w.heap.size + 1, 0, none⟩ (.int .i64 0)).setCell ⟨w.heap.size + 1, 1, none⟩ (.slice none 0 0)).setCell ⟨w.heap.size + 1, 2, none⟩ (.slice none 0 0)).setCell ⟨w.heap.size + 1, 3, none⟩ (.int .i64 0)).setCell ⟨w.heap.size + 1, 4, none⟩ (.slice none 0 0) = w5 at *
    have z0 := (unhide R5).cell 0 rfl
    have z1 := (unhide R5).cell 1 rfl
    have z2 := (unhide R5).cell 2 rfl
    have z3 := (unhide R5).cell 3 rfl
    have z4 := (unhide R5).cell 4 rfl
    refine bodyPost_ret (v := .tuple #[.agg #[.int .i64 0, .slice none 0 0, .slice none 0 0, .int .i64 0, .slice none 0 0], .int .i64 cd]) (by simp [results, Try.results47, go_sem, z0, z1, z2, z3, z4]) rfl ?_
    rw [unhide HW, unhide HBAD]
    exact ⟨_, _, _, _, _, rfl, WalA.none _ _, unhide B5⟩
end Go.Proofs.Ytpdjfjapdmopoaa
