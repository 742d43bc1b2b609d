/- Lists of acts: what can be read, what is one's own; the laws' sz, to, eq. (Written by py/sl3.py.) -/
import Derived.Test.YtdlligninjfajaaStrO
import Derived.Test.YtdlligninjfajaaStr
import Derived.Test.YtdlligninjfajaaLawG
import Derived.Test.YtdlligninjfajaaBlk
import Derived.Deep.Fields
import Derived.Deep.Slices
import Derived.Deep.RegionHeld3
namespace Go.Proofs.Ytdlligninjfajaa
open Go.ChangeShapes Go.WideShapes Go.ChangeAt Go.RowKit Go.Deep
set_option linter.unusedVariables false
set_option linter.unusedSimpArgs false

structure Op where
  bg : Int
  en : Int
  wr : Bool
  va : ByteArray
deriving Inhabited
def opC (f : Op) : List Value := [.int .i64 f.bg, .int .i64 f.en, .bool f.wr, .string f.va]
def opsC (l : List Op) : List Value := l.flatMap opC
/-- The value is a slice that holds these acts. -/
def Ops (w : World) (v : Value) (l : List Op) : Prop :=
  ∃ a cap, v = .slice a l.length cap ∧ l.length ≤ cap ∧ cap ≤ maxLen ∧ (l.length = 0 ∨ ∃ b off, a = some ⟨b, off, none⟩ ∧ b < w.heap.size ∧ ∀ i, i < l.length → w.cell? ⟨b, off + i * 4, none⟩ = some (.int .i64 (l.getD i default).bg) ∧ w.cell? ⟨b, off + i * 4 + 1, none⟩ = some (.int .i64 (l.getD i default).en) ∧ w.cell? ⟨b, off + i * 4 + 2, none⟩ = some (.bool (l.getD i default).wr) ∧ w.cell? ⟨b, off + i * 4 + 3, none⟩ = some (.string (l.getD i default).va))
theorem Ops.below {w w' : World} {v : Value} {l : List Op} (h : Ops w v l) (hb : Below w.heap.size w w') : Ops w' v l := by
  obtain ⟨a, cap, hv, hn, hm, hc⟩ := h
  refine ⟨a, cap, hv, hn, hm, ?_⟩
  rcases hc with h0 | ⟨b, off, ha, hlt, hc⟩
  · exact .inl h0
  · exact .inr ⟨b, off, ha, Nat.lt_of_lt_of_le hlt hb.size, fun i hi => ⟨(hb.cell (p := ⟨b, off + i * 4, none⟩) hlt).trans (hc i hi).1, (hb.cell (p := ⟨b, off + i * 4 + 1, none⟩) hlt).trans (hc i hi).2.1, (hb.cell (p := ⟨b, off + i * 4 + 2, none⟩) hlt).trans (hc i hi).2.2.1, (hb.cell (p := ⟨b, off + i * 4 + 3, none⟩) hlt).trans (hc i hi).2.2.2⟩⟩
theorem opsC_len (l : List Op) : (opsC l).length = l.length * 4 := by
  induction l with
  | nil => rfl
  | cons f r ih => simp only [opsC, List.flatMap_cons, List.length_append, List.length_cons] at ih ⊢; rw [ih]; simp [opC]; omega
theorem opsC_app (x y : List Op) : opsC (x ++ y) = opsC x ++ opsC y := by simp [opsC]
theorem opsC_get : ∀ (l : List Op) (i : Nat), i < l.length → (opsC l)[i * 4]? = some (.int .i64 (l.getD i default).bg) ∧ (opsC l)[i * 4 + 1]? = some (.int .i64 (l.getD i default).en) ∧ (opsC l)[i * 4 + 2]? = some (.bool (l.getD i default).wr) ∧ (opsC l)[i * 4 + 3]? = some (.string (l.getD i default).va)
  | [], i, h => by simp at h
  | f :: r, 0, h => ⟨rfl, rfl, rfl, rfl⟩
  | f :: r, i + 1, h => by
    have ih := opsC_get r i (by simpa using h)
    have e : opsC (f :: r) = .int .i64 f.bg :: .int .i64 f.en :: .bool f.wr :: .string f.va :: opsC r := rfl
    rw [e, show (i + 1) * 4 = i * 4 + 1 + 1 + 1 + 1 by omega, show i * 4 + 1 + 1 + 1 + 1 + 1 = (i * 4 + 1) + 1 + 1 + 1 + 1 by omega, show i * 4 + 1 + 1 + 1 + 1 + 2 = (i * 4 + 2) + 1 + 1 + 1 + 1 by omega, show i * 4 + 1 + 1 + 1 + 1 + 3 = (i * 4 + 3) + 1 + 1 + 1 + 1 by omega]
    simp only [List.getElem?_cons_succ, List.getD_cons_succ]
    exact ih
theorem opsC_set : ∀ (l : List Op) (k : Nat) (f : Op), k < l.length → (((((opsC l).set (k * 4) (.int .i64 f.bg)).set (k * 4 + 1) (.int .i64 f.en)).set (k * 4 + 2) (.bool f.wr)).set (k * 4 + 3) (.string f.va)) = opsC (l.set k f)
  | [], k, f, h => by simp at h
  | g :: r, 0, f, h => rfl
  | g :: r, k + 1, f, h => by
    have ih := opsC_set r k f (by simpa using h)
    have e : ∀ (g : Op) (r : List Op), opsC (g :: r) = .int .i64 g.bg :: .int .i64 g.en :: .bool g.wr :: .string g.va :: opsC r := fun _ _ => rfl
    rw [List.set_cons_succ, e, e, ← ih, show (k + 1) * 4 = k * 4 + 1 + 1 + 1 + 1 by omega, show k * 4 + 1 + 1 + 1 + 1 + 1 = (k * 4 + 1) + 1 + 1 + 1 + 1 by omega, show k * 4 + 1 + 1 + 1 + 1 + 2 = (k * 4 + 2) + 1 + 1 + 1 + 1 by omega, show k * 4 + 1 + 1 + 1 + 1 + 3 = (k * 4 + 3) + 1 + 1 + 1 + 1 by omega]
    simp only [List.set_cons_succ]
/-- The value is a slice of the call's own, from block B on, that holds these acts. -/
def OwnOp (B : Nat) (w : World) (v : Value) (l : List Op) : Prop := w.ownsRow B 50 4 v l.length (opsC l)
theorem OwnOp.cells {B : Nat} {w : World} {g cap n : Nat} {l : List Op} (h : w.ownsRow B 50 4 (.slice (some ⟨g, 0, none⟩) n cap) n (opsC l)) (i : Nat) (hi : i < l.length) (hn : n = l.length) :
    w.cell? ⟨g, i * 4, none⟩ = some (.int .i64 (l.getD i default).bg) ∧ w.cell? ⟨g, i * 4 + 1, none⟩ = some (.int .i64 (l.getD i default).en) ∧ w.cell? ⟨g, i * 4 + 2, none⟩ = some (.bool (l.getD i default).wr) ∧ w.cell? ⟨g, i * 4 + 3, none⟩ = some (.string (l.getD i default).va) := by
  obtain ⟨e0, e1, e2, e3⟩ := opsC_get l i hi
  exact ⟨(h.cellAt _ (by omega)).trans e0, (h.cellAt _ (by omega)).trans e1, (h.cellAt _ (by omega)).trans e2, (h.cellAt _ (by omega)).trans e3⟩
theorem OwnOp.read {B : Nat} {w : World} {v : Value} {l : List Op} (h : OwnOp B w v l) : Ops w v l := by
  rcases h.2 with ⟨rfl, h0⟩ | ⟨g, cap, cur, rfl, hb, hg, hn, hm, _⟩
  · obtain rfl := List.eq_nil_of_length_eq_zero h0
    exact ⟨none, 0, rfl, Nat.le_refl _, by unfold maxLen; omega, .inl rfl⟩
  · refine ⟨_, _, rfl, hn, hm, .inr ⟨g, 0, rfl, (Array.getElem?_eq_some_iff.1 hg).1, fun i hi => ?_⟩⟩
    have := OwnOp.cells h i hi rfl
    simpa using this
theorem OwnOp.kept {T : Nat → Prop} {B : Nat} {w w' : World} {v : Value} {l : List Op} (h : OwnOp B w v l) (ht : Touch T w w') (hn : ∀ k, v.ownBlock = some k → ¬ T k) : OwnOp B w' v l := own_kept h ht hn
theorem OwnOp.below {B : Nat} {w w' : World} {v : Value} {l : List Op} (h : OwnOp B w v l) (hb : Below w.heap.size w w') : OwnOp B w' v l := h.kept (T := fun _ => False) (Touch.ofBelow hb) (fun _ _ h => h)
theorem OwnOp.lt {B : Nat} {w : World} {v : Value} {l : List Op} (h : OwnOp B w v l) : ∀ k, v.ownBlock = some k → B ≤ k ∧ k < w.heap.size := World.ownsRow.lt h
theorem OwnOp.down {B B' : Nat} {w : World} {v : Value} {l : List Op} (h : OwnOp B w v l) (hB : B' ≤ B) : OwnOp B' w v l := by
  obtain ⟨hl, hc⟩ := h
  refine ⟨hl, ?_⟩
  rcases hc with h0 | ⟨g, cap, cur, hv, hg, rest⟩
  · exact .inl h0
  · exact .inr ⟨g, cap, cur, hv, by omega, rest⟩
theorem OwnOp.nil (B : Nat) (w : World) : OwnOp B w (.slice none 0 0) [] := World.ownsRow_nil w B 50 4
theorem infoOp : (Try.prog.info? 50).map (fun i => (i.zero, i.size, i.bytes)) = some (some (.agg #[.int .i64 0, .int .i64 0, .bool false, .string ⟨#[]⟩]), 4, 40) := by kernel_rfl
theorem wrapOp (n : Int) (h0 : 0 ≤ n) (h1 : n < 9223372036854775808) : IntKind.i64.wrap n = n := by
  simp only [IntKind.wrap, IntKind.bits, IntKind.signed]
  simp
  omega
def owF (f : Op) : Int := (f.va.size : Int)
theorem owF_nn (f : Op) : 0 ≤ owF f := by unfold owF; omega
/-- Bytes of the texts of the first k acts. -/
def owTo (l : List Op) : Nat → Int
  | 0 => 0
  | k + 1 => owTo l k + owF (l.getD k default)
theorem ow_mono (l : List Op) (i j : Nat) (h : i ≤ j) : owTo l i ≤ owTo l j := by
  induction j with
  | zero => obtain rfl : i = 0 := by omega
            exact Int.le_refl _
  | succ j ih =>
    by_cases e : i = j + 1
    · subst e; exact Int.le_refl _
    · have := ih (by omega)
      have := owF_nn (l.getD j default)
      show _ ≤ owTo l j + _
      omega
def oszR (L : Int) (l : List Op) : Int := if (l.length : Int) + owTo l l.length ≤ L then L - (l.length : Int) - owTo l l.length else -1
def oszF (f : Op) (left : Int) : Int := if left - owF f < 0 then -1 else left - owF f
theorem oszR_cases (L : Int) (l : List Op) : oszR L l = -1 ∨ (0 ≤ oszR L l ∧ oszR L l ≤ L) := by
  have hw0 := ow_mono l 0 l.length (Nat.zero_le _)
  have hw00 : owTo l 0 = 0 := rfl
  unfold oszR; split
  · right; omega
  · left; rfl
theorem osmall_of (L : Int) (hL : L ≤ 1048576) (l : List Op) (h : 0 ≤ oszR L l) : l.length ≤ 1048576 ∧ ∀ i, (l.getD i default).va.size ≤ 1048576 := by
  have h1 : (l.length : Int) + owTo l l.length ≤ L := by
    unfold oszR at h
    split at h
    · assumption
    · omega
  have hw0 := ow_mono l 0 l.length (Nat.zero_le _)
  have hw00 : owTo l 0 = 0 := rfl
  refine ⟨by omega, fun i => ?_⟩
  by_cases hi : i < l.length
  · have e2 : owTo l (i + 1) = owTo l i + owF (l.getD i default) := rfl
    have := ow_mono l (i + 1) l.length (by omega)
    have := ow_mono l 0 i (Nat.zero_le _)
    unfold owF at e2
    omega
  · rw [List.getD_eq_getElem?_getD, List.getElem?_eq_none (by omega)]
    simp only [Option.getD_none]
    have e3 : (default : Op).va.size = 0 := rfl
    omega
set_option maxRecDepth 100000 in
set_option maxHeartbeats 1000000 in
theorem szOp_any (f : Op) (left : Int) (w : World) (h0 : 0 ≤ left) (h1 : left ≤ 1048576) (hd3 : f.va.size ≤ maxLen) :
    Calls Try.prog 30 #[.agg #[.int .i64 f.bg, .int .i64 f.en, .bool f.wr, .string f.va], .int .i64 left] w fun e w' => e = .returned (.int .i64 (oszF f left)) ∧ Below w.heap.size w w' := by
  obtain ⟨f0, f1, f2, f3⟩ := f
  dsimp only at hd3 ⊢
  have E : Hid (∀ r : Int, ((left - ((f3.size : Int)) < 0 → r = -1) ∧ (¬ left - ((f3.size : Int)) < 0 → r = left - ((f3.size : Int)))) → r = oszF ⟨f0, f1, f2, f3⟩ left) := hide (fun r hr => by unfold oszF owF; dsimp only; split <;> omega)
  have B0 := hide ((Below.refl w.heap.size w).alloc (Nat.le_refl _) (.cells #[.int .i64 f0, .int .i64 f1, .bool f2, .string f3] 49))
  have A0 := hide (Blk.new w #[.int .i64 f0, .int .i64 f1, .bool f2, .string f3] 49 w.heap.size rfl)
  unfold maxLen at hd3
  by_cases r0 : left - (f3.size : Int) < 0
  · have E1 := hide (unhide E (-1) ⟨fun _ => rfl, fun h => by omega⟩)
    clear E
    go_enter Try.func30, Try.ntmps30
    go_wp2_with fail
    go_ret
    exact ⟨ret_int (unhide E1), unhide B0⟩
  have E1 := hide (unhide E (left - (f3.size : Int)) ⟨fun h => by omega, fun h => by omega⟩)
  clear E
  go_enter Try.func30, Try.ntmps30
  go_wp2_with fail
  go_ret
  exact ⟨ret_int (unhide E1), unhide B0⟩
set_option maxRecDepth 100000 in
set_option maxHeartbeats 1000000 in
theorem szOpS_any (L : Int) (hL0 : 0 ≤ L) (hL1 : L ≤ 1048576) (v : Value) (l : List Op) (w : World) (h : Ops w v l) (hz : ∀ i, i < l.length → (l.getD i default).va.size ≤ maxLen) :
    Calls Try.prog 8 #[v, .int .i64 L] w fun e w' => e = .returned (.int .i64 (oszR L l)) ∧ Below w.heap.size w w' := by
  obtain ⟨a, cap, rfl, hn, hm, hc⟩ := h
  have HC := hide hc
  have HZ := hide hz
  have hlm : l.length ≤ 9223372036854775807 := by unfold maxLen at hm; omega
  clear hc hz hm hn
  have hw0 := ow_mono l 0 l.length (Nat.zero_le _)
  have hw00 : owTo l 0 = 0 := rfl
  by_cases hl : L < l.length
  · have E : Hid (oszR L l = -1) := hide (by unfold oszR; rw [if_neg (by omega)])
    have hl2 : L - (l.length : Int) < 0 := by omega
    go_enter Try.func8, Try.ntmps8
    go_wp2_with fail
    go_ret
    exact ⟨ret_int (unhide E).symm, Below.refl _ _⟩
  · have hl2 : ¬ L - (l.length : Int) < 0 := by omega
    go_enter Try.func8, Try.ntmps8
    go_wp2_with fail
    go_loopw [1, 5] (fun lf i wr => ∃ (k : Nat) (x : Int), k ≤ l.length ∧ i = .int .i64 k ∧ lf = .int .i64 x ∧ x = L - (l.length : Int) - owTo l k ∧ 0 ≤ x ∧ Below w.heap.size w wr) (fun _ i _ => l.length - (intOf i).toNat)
    case atStart => exact ⟨0, _, Nat.zero_le _, rfl, rfl, by rw [hw00]; omega, by omega, Below.refl _ _⟩
    case round =>
      obtain ⟨k, x, hk, rfl, rfl, hx, hx0, hb⟩ := hrel
      by_cases hlt : k < l.length
      · obtain ⟨b, off, rfl, hbl, hsrc⟩ : ∃ b off, a = some ⟨b, off, none⟩ ∧ b < w.heap.size ∧ ∀ i, i < l.length → w.cell? ⟨b, off + i * 4, none⟩ = some (.int .i64 (l.getD i default).bg) ∧ w.cell? ⟨b, off + i * 4 + 1, none⟩ = some (.int .i64 (l.getD i default).en) ∧ w.cell? ⟨b, off + i * 4 + 2, none⟩ = some (.bool (l.getD i default).wr) ∧ w.cell? ⟨b, off + i * 4 + 3, none⟩ = some (.string (l.getD i default).va) := by
          rcases unhide HC with h0 | h1
          · omega
          · exact h1
        obtain ⟨s0, s1, s2, s3⟩ := hsrc k hlt
        have c0 := (hb.cell (p := ⟨b, off + k * 4, none⟩) hbl).trans s0
        have c1 := (hb.cell (p := ⟨b, off + k * 4 + 1, none⟩) hbl).trans s1
        have c2 := (hb.cell (p := ⟨b, off + k * 4 + 2, none⟩) hbl).trans s2
        have c3 := (hb.cell (p := ⟨b, off + k * 4 + 3, none⟩) hbl).trans s3
        have hk0 : (0 : Int) ≤ (k : Int) := by omega
        have hk1 : (k : Int) < (l.length : Int) := by omega
        have hwk := ow_mono l 0 k (Nat.zero_le _)
        have hwl := ow_mono l (k + 1) l.length (by omega)
        have hws : owTo l (k + 1) = owTo l k + owF (l.getD k default) := rfl
        have hz := unhide HZ k hlt
        have hx1 : x ≤ 1048576 := by omega
        have hbs := hb.size
        have HB := hide hb
        clear hsrc s0 s1 s2 s3 hb
        generalize l.getD k default = f at *
        have HSZ := hide (fun wx => szOp_any f x wx hx0 hx1 (hz))
        have HSF : Hid (oszF f x = if x - owF f < 0 then -1 else x - owF f) := rfl
        obtain ⟨r, hr⟩ : ∃ r, r = oszF f x := ⟨_, rfl⟩
        rw [← hr] at HSZ HSF
        have HW := hide (And.intro hwl (And.intro hws hx))
        clear hr hwl hws hx hwk hw0 hw00 hz
        generalize owF f = wf at *
        obtain ⟨f0, f1, f2, f3⟩ := f
        dsimp only at c0 c1 c2 c3 HSZ
        go_wp2_with fail
        refine (unhide HSZ wr).mono ?_
        rintro e w2 ⟨rfl, hb2⟩
        have HB2 := hide ((unhide HB).trans (hb2.mono hbs))
        clear hb2 HB HSZ
        by_cases hr0 : r < 0
        · have E : Hid (oszR L l = -1) := hide (by
            obtain ⟨h1, h2, h3⟩ := unhide HW
            have h4 := unhide HSF
            unfold oszR; rw [if_neg]
            split at h4 <;> omega)
          go_wp2_with fail
          go_ret
          exact ⟨ret_int (unhide E).symm, unhide HB2⟩
        · go_wp2_with fail
          refine ⟨⟨k + 1, r, by omega, by go_num, rfl, ?_, by omega, unhide HB2⟩, ?_⟩
          · obtain ⟨h1, h2, h3⟩ := unhide HW
            have h4 := unhide HSF
            split at h4 <;> omega
          · simp [intOf]; omega
      · obtain rfl : k = l.length := by omega
        have E : Hid (oszR L l = x) := hide (by unfold oszR; rw [if_pos (by omega)]; omega)
        have R := hide hb
        clear hb hx
        go_wp2_with fail
        go_ret
        exact ⟨ret_int (unhide E).symm, unhide R⟩
set_option maxRecDepth 100000 in
set_option maxHeartbeats 2000000 in
theorem toOp_any (f : Op) (w : World) :
    Calls Try.prog 32 #[.agg #[.int .i64 f.bg, .int .i64 f.en, .bool f.wr, .string f.va]] w fun e w' => e = .returned (.agg #[.int .i64 f.bg, .int .i64 f.en, .bool f.wr, .string f.va]) ∧ Below w.heap.size w w' := by
  obtain ⟨f0, f1, f2, f3⟩ := f
  dsimp only
  go_enter Try.func32, Try.ntmps32
  go_wp2_with fail
  refine bodyPost_ret (v := .agg #[.int .i64 f0, .int .i64 f1, .bool f2, .string f3]) (by simp [results, Try.results32, go_sem]) rfl ⟨rfl, ?_⟩
  exact (((Below.refl _ _).alloc (Nat.le_refl _) _).alloc (by simp) _).alloc (by simp; omega) _
def zeroOp : Op := ⟨0, 0, false, ⟨#[]⟩⟩
def fillOp (l : List Op) (k : Nat) : List Op := (List.range l.length).map fun j => if j < k then l.getD j default else zeroOp
theorem fillOp_len (l : List Op) (k : Nat) : (fillOp l k).length = l.length := by simp [fillOp]
theorem fillOp_all (l : List Op) : fillOp l l.length = l := by
  apply List.ext_getElem?
  intro j
  by_cases hj : j < l.length
  · simp [fillOp, hj, List.getD_eq_getElem?_getD]
  · simp [fillOp, hj]
theorem fillOp_set (l : List Op) (k : Nat) (hk : k < l.length) : (fillOp l k).set k (l.getD k default) = fillOp l (k + 1) := by
  apply List.ext_getElem?
  intro j
  rw [List.getElem?_set]
  simp only [fillOp_len]
  by_cases e : k = j
  · subst e
    rw [if_pos rfl, if_pos hk]
    simp [fillOp, hk]
  · rw [if_neg e]
    by_cases hj : j < l.length
    · by_cases h1 : j < k
      · simp [fillOp, hj, h1, show j < k + 1 by omega]
      · simp [fillOp, hj, h1, show ¬ j < k + 1 by omega]
    · simp [fillOp, hj]
theorem madeOp_at (x0 x1 x2 x3 : Value) (n j : Nat) (hj : j < n) : (madeCells #[x0, x1, x2, x3] n).toList[j]? = some (if j % 4 = 0 then x0 else if j % 4 = 1 then x1 else if j % 4 = 2 then x2 else x3) := by
  have h3 : (#[x0, x1, x2, x3] : Array Value).size = 4 := rfl
  unfold madeCells
  rw [h3, Array.getElem?_toList, Array.getElem?_map]
  have hr : (Array.range n)[j]? = some j := by simp [hj]
  rw [hr, Option.map_some]
  rcases (show j % 4 = 0 ∨ j % 4 = 1 ∨ j % 4 = 2 ∨ j % 4 = 3 by omega) with e | e | e | e
  · rw [e]; rfl
  · rw [e]; rfl
  · rw [e]; rfl
  · rw [e]; rfl
theorem madeOp (l : List Op) : (madeCells (Value.agg #[.int .i64 0, .int .i64 0, .bool false, .string ⟨#[]⟩]).cells (l.length * 4)).toList = opsC (fillOp l 0) := by
  have hcs : (Value.agg #[.int .i64 0, .int .i64 0, .bool false, .string ⟨#[]⟩]).cells = #[Value.int .i64 0, Value.int .i64 0, Value.bool false, Value.string ⟨#[]⟩] := rfl
  rw [hcs]
  apply List.ext_getElem?
  intro j
  by_cases hj : j < l.length * 4
  · have hq : j / 4 < (fillOp l 0).length := by rw [fillOp_len]; omega
    obtain ⟨g0, g1, g2, g3⟩ := opsC_get (fillOp l 0) (j / 4) hq
    have hz : (fillOp l 0).getD (j / 4) default = zeroOp := by
      rw [fillOp_len] at hq
      rw [List.getD_eq_getElem?_getD]
      simp [fillOp, hq]
    rw [hz] at g0 g1 g2 g3
    rw [madeOp_at _ _ _ _ _ _ hj]
    rcases (show j % 4 = 0 ∨ j % 4 = 1 ∨ j % 4 = 2 ∨ j % 4 = 3 by omega) with e | e | e | e
    · rw [show j / 4 * 4 = j by omega] at g0; rw [g0, e]; rfl
    · rw [show j / 4 * 4 + 1 = j by omega] at g1; rw [g1, e]; rfl
    · rw [show j / 4 * 4 + 2 = j by omega] at g2; rw [g2, e]; rfl
    · rw [show j / 4 * 4 + 3 = j by omega] at g3; rw [g3, e]; rfl
  · have e1 : (madeCells #[Value.int .i64 0, Value.int .i64 0, Value.bool false, Value.string ⟨#[]⟩] (l.length * 4)).toList[j]? = none := List.getElem?_eq_none (by rw [Array.length_toList, size_madeCells]; omega)
    have e2 : (opsC (fillOp l 0))[j]? = none := List.getElem?_eq_none (by rw [opsC_len, fillOp_len]; omega)
    rw [e1, e2]
set_option maxRecDepth 100000 in
set_option maxHeartbeats 1000000 in
theorem toOpS_any (v : Value) (l : List Op) (w : World) (h : Ops w v l) (hs : l.length ≤ 1048576) :
    Calls Try.prog 10 #[v] w fun e w' => e = .returned (.slice (some ⟨w.heap.size, 0, none⟩) l.length l.length) ∧ OwnOp w.heap.size w' (.slice (some ⟨w.heap.size, 0, none⟩) l.length l.length) l ∧ w.heap.size < w'.heap.size ∧ Below w.heap.size w w' := by
  obtain ⟨i0, hi, hz0, hz1, hz2⟩ := info_parts infoOp
  obtain ⟨a, cap, rfl, hn, hm, hc⟩ := h
  have HC := hide hc
  clear hc hm hn
  go_enter Try.func10, Try.ntmps10
  go_wp2_with (at_make; refine wpList_make_full _ rfl _ _ 25 rfl w.heap.size 50 i0 _ 4 Try.underlying25 hi hz0 hz1 .i64 .i64 _ _ l.length rfl rfl rfl rfl (by rw [hz2]; omega) (by unfold maxLen; omega) (Nat.le_refl _) ?_; intro w1 hown1 hg1)
  rw [madeOp] at hown1
  have HZ := hide (And.intro hown1 ((Below.refl w.heap.size w).grown hg1 (Nat.le_refl _) (fun k h => by cases h)))
  clear hown1 hg1
  go_loopw [4] (fun i wr => ∃ k : Nat, k ≤ l.length ∧ i = .int .i64 k ∧ wr.ownsRow w.heap.size 50 4 (.slice (some ⟨w.heap.size, 0, none⟩) l.length l.length) l.length (opsC (fillOp l k)) ∧ Below w.heap.size w wr) (fun i _ => l.length - (intOf i).toNat)
  case atStart => exact ⟨0, Nat.zero_le _, rfl, (unhide HZ).1, (unhide HZ).2⟩
  case round =>
    obtain ⟨k, hk, rfl, hL, hbel⟩ := hrel
    by_cases hlt : k < l.length
    · obtain ⟨b, off, rfl, hbl, hsrc⟩ : ∃ b off, a = some ⟨b, off, none⟩ ∧ b < w.heap.size ∧ ∀ i, i < l.length → w.cell? ⟨b, off + i * 4, none⟩ = some (.int .i64 (l.getD i default).bg) ∧ w.cell? ⟨b, off + i * 4 + 1, none⟩ = some (.int .i64 (l.getD i default).en) ∧ w.cell? ⟨b, off + i * 4 + 2, none⟩ = some (.bool (l.getD i default).wr) ∧ w.cell? ⟨b, off + i * 4 + 3, none⟩ = some (.string (l.getD i default).va) := by
        rcases unhide HC with h0 | h1
        · omega
        · exact h1
      obtain ⟨s0, s1, s2, s3⟩ := hsrc k hlt
      have c0 := (hbel.cell (p := ⟨b, off + k * 4, none⟩) hbl).trans s0
      have c1 := (hbel.cell (p := ⟨b, off + k * 4 + 1, none⟩) hbl).trans s1
      have c2 := (hbel.cell (p := ⟨b, off + k * 4 + 2, none⟩) hbl).trans s2
      have c3 := (hbel.cell (p := ⟨b, off + k * 4 + 3, none⟩) hbl).trans s3
      have hk0 : (0 : Int) ≤ (k : Int) := by omega
      have hk1 : (k : Int) < (l.length : Int) := by omega
      have hbs := hbel.size
      have HL := hide hL
      have HB := hide hbel
      clear hsrc s0 s1 s2 s3 hL hbel
      obtain ⟨f, hf⟩ : ∃ f, f = l.getD k default := ⟨_, rfl⟩
      rw [← hf] at c0 c1 c2 c3
      have HFe := hide hf
      clear hf
      have HT := hide (fun wx => toOp_any f wx)
      obtain ⟨f0, f1, f2, f3⟩ := f
      dsimp only at c0 c1 c2 c3 HT
      go_wp2_with fail
      refine (unhide HT wr).mono ?_
      rintro e w2 ⟨rfl, hb2⟩
      have hO : w2.ownsRow w.heap.size 50 4 (.slice (some ⟨w.heap.size, 0, none⟩) l.length l.length) l.length (opsC (fillOp l k)) := own_kept (T := fun _ => False) (unhide HL) (Touch.ofBelow hb2) (fun _ _ h => h)
      have hB2 := (unhide HB).trans (hb2.mono hbs)
      obtain ⟨d0, d1, d2, d3⟩ := OwnOp.cells hO k (by rw [fillOp_len]; exact hlt) (fillOp_len l k).symm
      have g0 := hO.frozenAt (k * 4)
      have g1 := hO.frozenAt (k * 4 + 1)
      have g2 := hO.frozenAt (k * 4 + 2)
      have g3 := hO.frozenAt (k * 4 + 3)
      have q0 := (hO.stored (k * 4) (.int .i64 f0)).1
      have q1 := (q0.stored (k * 4 + 1) (.int .i64 f1)).1
      have q2 := (q1.stored (k * 4 + 2) (.bool f2)).1
      have q3 := (q2.stored (k * 4 + 3) (.string f3)).1
      have hset : (((((opsC (fillOp l k)).set (k * 4) (.int .i64 f0)).set (k * 4 + 1) (.int .i64 f1)).set (k * 4 + 2) (.bool f2)).set (k * 4 + 3) (.string f3)) = opsC (fillOp l (k + 1)) := by
        have h1 := opsC_set (fillOp l k) k ⟨f0, f1, f2, f3⟩ (by rw [fillOp_len]; exact hlt)
        dsimp only at h1
        rw [h1, ← fillOp_set l k hlt, ← unhide HFe]
      rw [hset] at q3
      have R := hide (And.intro q3 ((((hB2.setCell (p := ⟨w.heap.size, k * 4, none⟩) (Nat.le_refl _) (.int .i64 f0)).setCell (p := ⟨w.heap.size, k * 4 + 1, none⟩) (Nat.le_refl _) (.int .i64 f1)).setCell (p := ⟨w.heap.size, k * 4 + 2, none⟩) (Nat.le_refl _) (.bool f2)).setCell (p := ⟨w.heap.size, k * 4 + 3, none⟩) (Nat.le_refl _) (.string f3)))
      clear q0 q1 q2 q3 hset hO hB2 hb2 HT HL HB
      go_wp2_with fail
      refine ⟨⟨k + 1, by omega, by go_num, (unhide R).1, (unhide R).2⟩, ?_⟩
      simp [intOf]; omega
    · obtain rfl : k = l.length := by omega
      rw [fillOp_all] at hL
      have hlt9 := (hL.lt w.heap.size rfl).2
      have R := hide (And.intro hL hbel)
      clear hL hbel
      go_wp2_with fail
      go_ret
      exact ⟨rfl, (unhide R).1, hlt9, (unhide R).2⟩
set_option maxRecDepth 100000 in
/-- acts that came in, opened. -/
theorem open_acts {H : Type} {enc : TypeId × Value → H} {W : World} {base b0 : Nat} {r : Reach} {sp : Nat → Bool} {held : Bool} {v : Value} {d : DataW H} {p : List MemPlace}
    (hv : Value.okWide Try.prog W r b0 22 v) (ht : DataW.Trod enc Try.prog W base sp held 22 v d p) :
    ∃ l : List Op, Ops W v l ∧ ∀ i, i < l.length → (Lit.int .i64 (l.getD i default).bg).wf = true ∧ (Lit.int .i64 (l.getD i default).en).wf = true ∧ (l.getD i default).va.size ≤ maxLen := by
  obtain ⟨fuel, h0⟩ := ht
  obtain ⟨a0, len0, cap0, rfl⟩ := okWide_slice Try.underlying22 hv
  have h : DataW.trod enc Try.prog W base sp held fuel 22 [.slice a0 len0 cap0] = some (d, p) := h0
  have i3 : Try.prog.cellsOf 3 = 1 := by kernel_rfl
  have i4 : Try.prog.cellsOf 4 = 1 := by kernel_rfl
  have i9 : Try.prog.cellsOf 9 = 1 := by kernel_rfl
  have iF : Try.prog.cellsOf 49 = 4 := by kernel_rfl

  rcases open_slice Try.underlying22 h with ⟨hc, _⟩ | ⟨a, len, cap, m, n, D, Pl, hc, hb, hl, hm, hmm, _, hx⟩
  · simp only [List.cons.injEq, and_true, Value.slice.injEq] at hc
    obtain ⟨rfl, rfl, rfl⟩ := hc
    exact ⟨[], ⟨none, 0, rfl, Nat.le_refl _, by unfold maxLen; omega, .inl rfl⟩, fun i hi => by simp at hi⟩
  · simp only [List.cons.injEq, and_true, Value.slice.injEq] at hc
    obtain ⟨rfl, rfl, rfl⟩ := hc
    have hlm : len0 ≤ m := by rw [hmm]; split <;> omega
    rw [iF] at hx
    have each : ∀ i, i < len0 → ∃ f : Op, W.cell? (a.add (i * 4)) = some (.int .i64 f.bg) ∧ W.cell? (a.add (i * 4 + 1)) = some (.int .i64 f.en) ∧ W.cell? (a.add (i * 4 + 2)) = some (.bool f.wr) ∧ W.cell? (a.add (i * 4 + 3)) = some (.string f.va) ∧ (Lit.int .i64 f.bg).wf = true ∧ (Lit.int .i64 f.en).wf = true ∧ f.va.size ≤ maxLen := by
      intro i hi
      obtain ⟨cs', h1, h2⟩ := hx i (by omega)
      obtain ⟨_, hlen, hcell⟩ := World.cells?_some h1
      obtain ⟨xs, k, hk, hxy, _, hxl, hf⟩ := DataW.trod_struct Try.underlying49 h2
      match cs', hlen with
      | [v0, v1, v2, v3], _ =>
        obtain ⟨y0, e0⟩ := get_some hxl (show 0 < 4 by omega)
        obtain ⟨y1, e1⟩ := get_some hxl (show 1 < 4 by omega)
        obtain ⟨y2, e2⟩ := get_some hxl (show 2 < 4 by omega)
        obtain ⟨y3, e3⟩ := get_some hxl (show 3 < 4 by omega)
        have g0 : DataW.trod enc Try.prog W base sp held k 3 [v0] = some y0 := by simpa [Value.cells, i3, i4, i9] using (hf 0 _ rfl).trans e0
        have g1 : DataW.trod enc Try.prog W base sp held k 3 [v1] = some y1 := by simpa [Value.cells, i3, i4, i9] using (hf 1 _ rfl).trans e1
        have g2 : DataW.trod enc Try.prog W base sp held k 4 [v2] = some y2 := by simpa [Value.cells, i3, i4, i9] using (hf 2 _ rfl).trans e2
        have g3 : DataW.trod enc Try.prog W base sp held k 9 [v3] = some y3 := by simpa [Value.cells, i3, i4, i9] using (hf 3 _ rfl).trans e3
        obtain ⟨a0, f0, _, q0⟩ := DataW.trod_int Try.underlying3 g0
        obtain ⟨a1, f1, _, q1⟩ := DataW.trod_int Try.underlying3 g1
        obtain ⟨a2, f2, _⟩ := DataW.trod_bool Try.underlying4 g2
        obtain ⟨a3, f3, _, q3⟩ := DataW.trod_string Try.underlying9 g3
        simp only [List.cons.injEq, and_true] at f0 f1 f2 f3
        subst f0 f1 f2 f3
        have c0 := hcell 0 (by omega)
        have c1 := hcell 1 (by omega)
        have c2 := hcell 2 (by omega)
        have c3 := hcell 3 (by omega)
        rw [add_add] at c0 c1 c2 c3
        exact ⟨⟨a0, a1, a2, a3⟩, by simpa using c0, by simpa using c1, by simpa using c2, by simpa using c3, q0, q1, q3⟩
    obtain ⟨F, hF⟩ := choose_lt each
    have hlen : ((List.range len0).map F).length = len0 := by simp
    have hget : ∀ i, i < len0 → ((List.range len0).map F).getD i default = F i := fun i hi => by simp [List.getD_eq_getElem?_getD, hi]
    refine ⟨(List.range len0).map F, ⟨some a, cap0, by rw [hlen], by rw [hlen]; exact hl, hm, ?_⟩, fun i hi => ?_⟩
    · by_cases h0 : len0 = 0
      · exact .inl (by rw [hlen]; exact h0)
      · obtain ⟨b, off, spot⟩ := a
        have hc := (hF 0 (by omega)).1
        have hspot : spot = none := by simpa [Addr.add] using World.cell?_spot hc
        subst hspot
        have hblk := World.block_lt_of_cell? W _ hc
        have e0 : ∀ i, (⟨b, off, none⟩ : Addr).add i = ⟨b, off + i, none⟩ := fun i => by unfold Addr.add; split <;> simp_all
        rw [e0] at hblk
        refine .inr ⟨b, off, rfl, hblk, fun i hi => ?_⟩
        rw [hlen] at hi
        rw [hget i hi]
        have h9 := hF i hi
        simp only [e0] at h9
        obtain ⟨u0, u1, u2, u3, _⟩ := h9
        exact ⟨by first | exact u0 | simpa [Nat.add_assoc] using u0, by first | exact u1 | simpa [Nat.add_assoc] using u1, by first | exact u2 | simpa [Nat.add_assoc] using u2, by first | exact u3 | simpa [Nat.add_assoc] using u3⟩
    · rw [hlen] at hi
      rw [hget i hi]
      exact (hF i hi).2.2.2.2
set_option maxRecDepth 100000 in
set_option maxHeartbeats 1000000 in
theorem eqOp_any (f : Op) (w : World) :
    Calls Try.prog 36 #[.agg #[.int .i64 f.bg, .int .i64 f.en, .bool f.wr, .string f.va], .agg #[.int .i64 f.bg, .int .i64 f.en, .bool f.wr, .string f.va]] w fun e w' => e = .returned (.bool true) ∧ Below w.heap.size w w' := by
  obtain ⟨f0, f1, f2, f3⟩ := f
  dsimp only
  have B0 := hide (((Below.refl w.heap.size w).alloc (Nat.le_refl _) (.cells #[.int .i64 f0, .int .i64 f1, .bool f2, .string f3] 50)).alloc (by simp) (.cells #[.int .i64 f0, .int .i64 f1, .bool f2, .string f3] 50))
  have A0 := hide ((Blk.new w #[.int .i64 f0, .int .i64 f1, .bool f2, .string f3] 50 w.heap.size rfl).alloc (.cells #[.int .i64 f0, .int .i64 f1, .bool f2, .string f3] 50))
  have C0 := hide (Blk.new (w.alloc (.cells #[.int .i64 f0, .int .i64 f1, .bool f2, .string f3] 50)) #[.int .i64 f0, .int .i64 f1, .bool f2, .string f3] 50 (w.heap.size + 1) (by simp))
  go_enter Try.func36, Try.ntmps36
  skip
  go_wp2_with fail
  go_ret
  exact ⟨rfl, unhide B0⟩
set_option maxRecDepth 100000 in
set_option maxHeartbeats 2000000 in
theorem eqOpS_any (v v2 : Value) (l : List Op) (w : World) (h : Ops w v l) (h2 : Ops w v2 l) (hs : l.length ≤ 1048576) :
    Calls Try.prog 12 #[v, v2] w fun e w' => e = .returned (.bool true) ∧ Below w.heap.size w w' := by
  obtain ⟨a, cap, rfl, hn, hm, hc⟩ := h
  obtain ⟨a2, cap2, rfl, hn2, hm2, hc2⟩ := h2
  have HC := hide hc
  have HC2 := hide hc2
  clear hc hm hc2 hm2 hn hn2
  go_enter Try.func12, Try.ntmps12
  go_wp2_with fail
  go_loopw [5] (fun i wr => ∃ k : Nat, k ≤ l.length ∧ i = .int .i64 k ∧ Below w.heap.size w wr) (fun i _ => l.length - (intOf i).toNat)
  case atStart => exact ⟨0, Nat.zero_le _, rfl, Below.refl _ _⟩
  case round =>
    obtain ⟨k, hk, rfl, hb⟩ := hrel
    by_cases hlt : k < l.length
    · obtain ⟨b, off, rfl, hbl, hsrc⟩ : ∃ b off, a = some ⟨b, off, none⟩ ∧ b < w.heap.size ∧ ∀ i, i < l.length → w.cell? ⟨b, off + i * 4, none⟩ = some (.int .i64 (l.getD i default).bg) ∧ w.cell? ⟨b, off + i * 4 + 1, none⟩ = some (.int .i64 (l.getD i default).en) ∧ w.cell? ⟨b, off + i * 4 + 2, none⟩ = some (.bool (l.getD i default).wr) ∧ w.cell? ⟨b, off + i * 4 + 3, none⟩ = some (.string (l.getD i default).va) := by
        rcases unhide HC with h0 | h1
        · omega
        · exact h1
      obtain ⟨b2, off2, rfl, hbl2, hsrc2⟩ : ∃ b off, a2 = some ⟨b, off, none⟩ ∧ b < w.heap.size ∧ ∀ i, i < l.length → w.cell? ⟨b, off + i * 4, none⟩ = some (.int .i64 (l.getD i default).bg) ∧ w.cell? ⟨b, off + i * 4 + 1, none⟩ = some (.int .i64 (l.getD i default).en) ∧ w.cell? ⟨b, off + i * 4 + 2, none⟩ = some (.bool (l.getD i default).wr) ∧ w.cell? ⟨b, off + i * 4 + 3, none⟩ = some (.string (l.getD i default).va) := by
        rcases unhide HC2 with h0 | h1
        · omega
        · exact h1
      obtain ⟨s0, s1, s2, s3⟩ := hsrc k hlt
      obtain ⟨t0, t1, t2, t3⟩ := hsrc2 k hlt
      have c0 := (hb.cell (p := ⟨b, off + k * 4, none⟩) hbl).trans s0
      have d0 := (hb.cell (p := ⟨b2, off2 + k * 4, none⟩) hbl2).trans t0
      have c1 := (hb.cell (p := ⟨b, off + k * 4 + 1, none⟩) hbl).trans s1
      have d1 := (hb.cell (p := ⟨b2, off2 + k * 4 + 1, none⟩) hbl2).trans t1
      have c2 := (hb.cell (p := ⟨b, off + k * 4 + 2, none⟩) hbl).trans s2
      have d2 := (hb.cell (p := ⟨b2, off2 + k * 4 + 2, none⟩) hbl2).trans t2
      have c3 := (hb.cell (p := ⟨b, off + k * 4 + 3, none⟩) hbl).trans s3
      have d3 := (hb.cell (p := ⟨b2, off2 + k * 4 + 3, none⟩) hbl2).trans t3
      have hk0 : (0 : Int) ≤ (k : Int) := by omega
      have hk1 : (k : Int) < (l.length : Int) := by omega
      have hbs := hb.size
      have HB := hide hb
      clear hsrc hsrc2 s0 t0 s1 t1 s2 t2 s3 t3 hb
      generalize l.getD k default = f at *
      have HT := hide (fun wx => eqOp_any f wx)
      obtain ⟨f0, f1, f2, f3⟩ := f
      dsimp only at c0 d0 c1 d1 c2 d2 c3 d3 HT
      go_wp2_with fail
      go_region_held3 (fun wx => wx.cell? ⟨b, off + k * 4, none⟩ = some (.int .i64 f0) ∧ wx.cell? ⟨b, off + k * 4 + 1, none⟩ = some (.int .i64 f1) ∧ wx.cell? ⟨b, off + k * 4 + 2, none⟩ = some (.bool f2) ∧ wx.cell? ⟨b, off + k * 4 + 3, none⟩ = some (.string f3) ∧ wx.cell? ⟨b2, off2 + k * 4, none⟩ = some (.int .i64 f0) ∧ wx.cell? ⟨b2, off2 + k * 4 + 1, none⟩ = some (.int .i64 f1) ∧ wx.cell? ⟨b2, off2 + k * 4 + 2, none⟩ = some (.bool f2) ∧ wx.cell? ⟨b2, off2 + k * 4 + 3, none⟩ = some (.string f3))
        (first | go_keep | exact ⟨(hb2.cell (p := ⟨b, off + k * 4, none⟩) (by simp; omega)).trans c0, (hb2.cell (p := ⟨b, off + k * 4 + 1, none⟩) (by simp; omega)).trans c1, (hb2.cell (p := ⟨b, off + k * 4 + 2, none⟩) (by simp; omega)).trans c2, (hb2.cell (p := ⟨b, off + k * 4 + 3, none⟩) (by simp; omega)).trans c3, (hb2.cell (p := ⟨b2, off2 + k * 4, none⟩) (by simp; omega)).trans d0, (hb2.cell (p := ⟨b2, off2 + k * 4 + 1, none⟩) (by simp; omega)).trans d1, (hb2.cell (p := ⟨b2, off2 + k * 4 + 2, none⟩) (by simp; omega)).trans d2, (hb2.cell (p := ⟨b2, off2 + k * 4 + 3, none⟩) (by simp; omega)).trans d3⟩)
        ((go_at_call 36; refine (unhide HT _).mono ?_; rintro e w2 ⟨rfl, hb2⟩))
      all_goals
        have HBZ := hide ((unhide HB).trans (show Below w.heap.size wr w2 from (below_drewN (Below.refl _ wr) 1).trans (hb2.mono (by simpa using hbs))))
        clear hb2 HB
        go_wp2_with fail
        refine ⟨⟨k + 1, by omega, by go_num, unhide HBZ⟩, ?_⟩
        simp [intOf]; omega
    · have HB := hide hb
      clear hb
      go_wp2_with fail
      go_ret
      exact ⟨rfl, unhide HB⟩
end Go.Proofs.Ytdlligninjfajaa
