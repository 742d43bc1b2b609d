/- Lists of calls: what can be read, what is one's own; the laws' sz, to, eq. (Written by py/sl3.py.) -/
import Derived.Test.YtkbnoahpkhmplaaStrO
import Derived.Test.YtkbnoahpkhmplaaStr
import Derived.Test.YtkbnoahpkhmplaaLawG
import Derived.Test.YtkbnoahpkhmplaaBlk
import Derived.Deep.Fields
import Derived.Deep.Slices
import Derived.Deep.RegionHeld3
namespace Go.Proofs.Ytkbnoahpkhmplaa
open Go.ChangeShapes Go.WideShapes Go.ChangeAt Go.RowKit Go.Deep
set_option linter.unusedVariables false
set_option linter.unusedSimpArgs false

structure Cr where
  cl : Int
  bg : Int
  en : Int
  kd : Int
  ss : Int
  sq : Int
  ky : ByteArray
  va : ByteArray
  rk : Int
  rp : Int
  rv : ByteArray
deriving Inhabited
def crC (f : Cr) : List Value := [.int .i64 f.cl, .int .i64 f.bg, .int .i64 f.en, .int .i64 f.kd, .int .i64 f.ss, .int .i64 f.sq, .string f.ky, .string f.va, .int .i64 f.rk, .int .i64 f.rp, .string f.rv]
def crsC (l : List Cr) : List Value := l.flatMap crC
/-- The value is a slice that holds these calls. -/
def Crs (w : World) (v : Value) (l : List Cr) : Prop :=
  ∃ a cap, v = .slice a l.length cap ∧ l.length ≤ cap ∧ cap ≤ maxLen ∧ (l.length = 0 ∨ ∃ b off, a = some ⟨b, off, none⟩ ∧ b < w.heap.size ∧ ∀ i, i < l.length → w.cell? ⟨b, off + i * 11, none⟩ = some (.int .i64 (l.getD i default).cl) ∧ w.cell? ⟨b, off + i * 11 + 1, none⟩ = some (.int .i64 (l.getD i default).bg) ∧ w.cell? ⟨b, off + i * 11 + 2, none⟩ = some (.int .i64 (l.getD i default).en) ∧ w.cell? ⟨b, off + i * 11 + 3, none⟩ = some (.int .i64 (l.getD i default).kd) ∧ w.cell? ⟨b, off + i * 11 + 4, none⟩ = some (.int .i64 (l.getD i default).ss) ∧ w.cell? ⟨b, off + i * 11 + 5, none⟩ = some (.int .i64 (l.getD i default).sq) ∧ w.cell? ⟨b, off + i * 11 + 6, none⟩ = some (.string (l.getD i default).ky) ∧ w.cell? ⟨b, off + i * 11 + 7, none⟩ = some (.string (l.getD i default).va) ∧ w.cell? ⟨b, off + i * 11 + 8, none⟩ = some (.int .i64 (l.getD i default).rk) ∧ w.cell? ⟨b, off + i * 11 + 9, none⟩ = some (.int .i64 (l.getD i default).rp) ∧ w.cell? ⟨b, off + i * 11 + 10, none⟩ = some (.string (l.getD i default).rv))
theorem Crs.below {w w' : World} {v : Value} {l : List Cr} (h : Crs w v l) (hb : Below w.heap.size w w') : Crs w' v l := by
  obtain ⟨a, cap, hv, hn, hm, hc⟩ := h
  refine ⟨a, cap, hv, hn, hm, ?_⟩
  rcases hc with h0 | ⟨b, off, ha, hlt, hc⟩
  · exact .inl h0
  · exact .inr ⟨b, off, ha, Nat.lt_of_lt_of_le hlt hb.size, fun i hi => ⟨(hb.cell (p := ⟨b, off + i * 11, none⟩) hlt).trans (hc i hi).1, (hb.cell (p := ⟨b, off + i * 11 + 1, none⟩) hlt).trans (hc i hi).2.1, (hb.cell (p := ⟨b, off + i * 11 + 2, none⟩) hlt).trans (hc i hi).2.2.1, (hb.cell (p := ⟨b, off + i * 11 + 3, none⟩) hlt).trans (hc i hi).2.2.2.1, (hb.cell (p := ⟨b, off + i * 11 + 4, none⟩) hlt).trans (hc i hi).2.2.2.2.1, (hb.cell (p := ⟨b, off + i * 11 + 5, none⟩) hlt).trans (hc i hi).2.2.2.2.2.1, (hb.cell (p := ⟨b, off + i * 11 + 6, none⟩) hlt).trans (hc i hi).2.2.2.2.2.2.1, (hb.cell (p := ⟨b, off + i * 11 + 7, none⟩) hlt).trans (hc i hi).2.2.2.2.2.2.2.1, (hb.cell (p := ⟨b, off + i * 11 + 8, none⟩) hlt).trans (hc i hi).2.2.2.2.2.2.2.2.1, (hb.cell (p := ⟨b, off + i * 11 + 9, none⟩) hlt).trans (hc i hi).2.2.2.2.2.2.2.2.2.1, (hb.cell (p := ⟨b, off + i * 11 + 10, none⟩) hlt).trans (hc i hi).2.2.2.2.2.2.2.2.2.2⟩⟩
theorem crsC_len (l : List Cr) : (crsC l).length = l.length * 11 := by
  induction l with
  | nil => rfl
  | cons f r ih => simp only [crsC, List.flatMap_cons, List.length_append, List.length_cons] at ih ⊢; rw [ih]; simp [crC]; omega
theorem crsC_app (x y : List Cr) : crsC (x ++ y) = crsC x ++ crsC y := by simp [crsC]
theorem crsC_get : ∀ (l : List Cr) (i : Nat), i < l.length → (crsC l)[i * 11]? = some (.int .i64 (l.getD i default).cl) ∧ (crsC l)[i * 11 + 1]? = some (.int .i64 (l.getD i default).bg) ∧ (crsC l)[i * 11 + 2]? = some (.int .i64 (l.getD i default).en) ∧ (crsC l)[i * 11 + 3]? = some (.int .i64 (l.getD i default).kd) ∧ (crsC l)[i * 11 + 4]? = some (.int .i64 (l.getD i default).ss) ∧ (crsC l)[i * 11 + 5]? = some (.int .i64 (l.getD i default).sq) ∧ (crsC l)[i * 11 + 6]? = some (.string (l.getD i default).ky) ∧ (crsC l)[i * 11 + 7]? = some (.string (l.getD i default).va) ∧ (crsC l)[i * 11 + 8]? = some (.int .i64 (l.getD i default).rk) ∧ (crsC l)[i * 11 + 9]? = some (.int .i64 (l.getD i default).rp) ∧ (crsC l)[i * 11 + 10]? = some (.string (l.getD i default).rv)
  | [], i, h => by simp at h
  | f :: r, 0, h => ⟨rfl, rfl, rfl, rfl, rfl, rfl, rfl, rfl, rfl, rfl, rfl⟩
  | f :: r, i + 1, h => by
    have ih := crsC_get r i (by simpa using h)
    have e : crsC (f :: r) = .int .i64 f.cl :: .int .i64 f.bg :: .int .i64 f.en :: .int .i64 f.kd :: .int .i64 f.ss :: .int .i64 f.sq :: .string f.ky :: .string f.va :: .int .i64 f.rk :: .int .i64 f.rp :: .string f.rv :: crsC r := rfl
    rw [e, show (i + 1) * 11 = i * 11 + 1 + 1 + 1 + 1 + 1 + 1 + 1 + 1 + 1 + 1 + 1 by omega, show i * 11 + 1 + 1 + 1 + 1 + 1 + 1 + 1 + 1 + 1 + 1 + 1 + 1 = (i * 11 + 1) + 1 + 1 + 1 + 1 + 1 + 1 + 1 + 1 + 1 + 1 + 1 by omega, show i * 11 + 1 + 1 + 1 + 1 + 1 + 1 + 1 + 1 + 1 + 1 + 1 + 2 = (i * 11 + 2) + 1 + 1 + 1 + 1 + 1 + 1 + 1 + 1 + 1 + 1 + 1 by omega, show i * 11 + 1 + 1 + 1 + 1 + 1 + 1 + 1 + 1 + 1 + 1 + 1 + 3 = (i * 11 + 3) + 1 + 1 + 1 + 1 + 1 + 1 + 1 + 1 + 1 + 1 + 1 by omega, show i * 11 + 1 + 1 + 1 + 1 + 1 + 1 + 1 + 1 + 1 + 1 + 1 + 4 = (i * 11 + 4) + 1 + 1 + 1 + 1 + 1 + 1 + 1 + 1 + 1 + 1 + 1 by omega, show i * 11 + 1 + 1 + 1 + 1 + 1 + 1 + 1 + 1 + 1 + 1 + 1 + 5 = (i * 11 + 5) + 1 + 1 + 1 + 1 + 1 + 1 + 1 + 1 + 1 + 1 + 1 by omega, show i * 11 + 1 + 1 + 1 + 1 + 1 + 1 + 1 + 1 + 1 + 1 + 1 + 6 = (i * 11 + 6) + 1 + 1 + 1 + 1 + 1 + 1 + 1 + 1 + 1 + 1 + 1 by omega, show i * 11 + 1 + 1 + 1 + 1 + 1 + 1 + 1 + 1 + 1 + 1 + 1 + 7 = (i * 11 + 7) + 1 + 1 + 1 + 1 + 1 + 1 + 1 + 1 + 1 + 1 + 1 by omega, show i * 11 + 1 + 1 + 1 + 1 + 1 + 1 + 1 + 1 + 1 + 1 + 1 + 8 = (i * 11 + 8) + 1 + 1 + 1 + 1 + 1 + 1 + 1 + 1 + 1 + 1 + 1 by omega, show i * 11 + 1 + 1 + 1 + 1 + 1 + 1 + 1 + 1 + 1 + 1 + 1 + 9 = (i * 11 + 9) + 1 + 1 + 1 + 1 + 1 + 1 + 1 + 1 + 1 + 1 + 1 by omega, show i * 11 + 1 + 1 + 1 + 1 + 1 + 1 + 1 + 1 + 1 + 1 + 1 + 10 = (i * 11 + 10) + 1 + 1 + 1 + 1 + 1 + 1 + 1 + 1 + 1 + 1 + 1 by omega]
    simp only [List.getElem?_cons_succ, List.getD_cons_succ]
    exact ih
theorem crsC_set : ∀ (l : List Cr) (k : Nat) (f : Cr), k < l.length → ((((((((((((crsC l).set (k * 11) (.int .i64 f.cl)).set (k * 11 + 1) (.int .i64 f.bg)).set (k * 11 + 2) (.int .i64 f.en)).set (k * 11 + 3) (.int .i64 f.kd)).set (k * 11 + 4) (.int .i64 f.ss)).set (k * 11 + 5) (.int .i64 f.sq)).set (k * 11 + 6) (.string f.ky)).set (k * 11 + 7) (.string f.va)).set (k * 11 + 8) (.int .i64 f.rk)).set (k * 11 + 9) (.int .i64 f.rp)).set (k * 11 + 10) (.string f.rv)) = crsC (l.set k f)
  | [], k, f, h => by simp at h
  | g :: r, 0, f, h => rfl
  | g :: r, k + 1, f, h => by
    have ih := crsC_set r k f (by simpa using h)
    have e : ∀ (g : Cr) (r : List Cr), crsC (g :: r) = .int .i64 g.cl :: .int .i64 g.bg :: .int .i64 g.en :: .int .i64 g.kd :: .int .i64 g.ss :: .int .i64 g.sq :: .string g.ky :: .string g.va :: .int .i64 g.rk :: .int .i64 g.rp :: .string g.rv :: crsC r := fun _ _ => rfl
    rw [List.set_cons_succ, e, e, ← ih, show (k + 1) * 11 = k * 11 + 1 + 1 + 1 + 1 + 1 + 1 + 1 + 1 + 1 + 1 + 1 by omega, show k * 11 + 1 + 1 + 1 + 1 + 1 + 1 + 1 + 1 + 1 + 1 + 1 + 1 = (k * 11 + 1) + 1 + 1 + 1 + 1 + 1 + 1 + 1 + 1 + 1 + 1 + 1 by omega, show k * 11 + 1 + 1 + 1 + 1 + 1 + 1 + 1 + 1 + 1 + 1 + 1 + 2 = (k * 11 + 2) + 1 + 1 + 1 + 1 + 1 + 1 + 1 + 1 + 1 + 1 + 1 by omega, show k * 11 + 1 + 1 + 1 + 1 + 1 + 1 + 1 + 1 + 1 + 1 + 1 + 3 = (k * 11 + 3) + 1 + 1 + 1 + 1 + 1 + 1 + 1 + 1 + 1 + 1 + 1 by omega, show k * 11 + 1 + 1 + 1 + 1 + 1 + 1 + 1 + 1 + 1 + 1 + 1 + 4 = (k * 11 + 4) + 1 + 1 + 1 + 1 + 1 + 1 + 1 + 1 + 1 + 1 + 1 by omega, show k * 11 + 1 + 1 + 1 + 1 + 1 + 1 + 1 + 1 + 1 + 1 + 1 + 5 = (k * 11 + 5) + 1 + 1 + 1 + 1 + 1 + 1 + 1 + 1 + 1 + 1 + 1 by omega, show k * 11 + 1 + 1 + 1 + 1 + 1 + 1 + 1 + 1 + 1 + 1 + 1 + 6 = (k * 11 + 6) + 1 + 1 + 1 + 1 + 1 + 1 + 1 + 1 + 1 + 1 + 1 by omega, show k * 11 + 1 + 1 + 1 + 1 + 1 + 1 + 1 + 1 + 1 + 1 + 1 + 7 = (k * 11 + 7) + 1 + 1 + 1 + 1 + 1 + 1 + 1 + 1 + 1 + 1 + 1 by omega, show k * 11 + 1 + 1 + 1 + 1 + 1 + 1 + 1 + 1 + 1 + 1 + 1 + 8 = (k * 11 + 8) + 1 + 1 + 1 + 1 + 1 + 1 + 1 + 1 + 1 + 1 + 1 by omega, show k * 11 + 1 + 1 + 1 + 1 + 1 + 1 + 1 + 1 + 1 + 1 + 1 + 9 = (k * 11 + 9) + 1 + 1 + 1 + 1 + 1 + 1 + 1 + 1 + 1 + 1 + 1 by omega, show k * 11 + 1 + 1 + 1 + 1 + 1 + 1 + 1 + 1 + 1 + 1 + 1 + 10 = (k * 11 + 10) + 1 + 1 + 1 + 1 + 1 + 1 + 1 + 1 + 1 + 1 + 1 by omega]
    simp only [List.set_cons_succ]
/-- The value is a slice of the call's own, from block B on, that holds these calls. -/
def OwnCr (B : Nat) (w : World) (v : Value) (l : List Cr) : Prop := w.ownsRow B 42 11 v l.length (crsC l)
theorem OwnCr.cells {B : Nat} {w : World} {g cap n : Nat} {l : List Cr} (h : w.ownsRow B 42 11 (.slice (some ⟨g, 0, none⟩) n cap) n (crsC l)) (i : Nat) (hi : i < l.length) (hn : n = l.length) :
    w.cell? ⟨g, i * 11, none⟩ = some (.int .i64 (l.getD i default).cl) ∧ w.cell? ⟨g, i * 11 + 1, none⟩ = some (.int .i64 (l.getD i default).bg) ∧ w.cell? ⟨g, i * 11 + 2, none⟩ = some (.int .i64 (l.getD i default).en) ∧ w.cell? ⟨g, i * 11 + 3, none⟩ = some (.int .i64 (l.getD i default).kd) ∧ w.cell? ⟨g, i * 11 + 4, none⟩ = some (.int .i64 (l.getD i default).ss) ∧ w.cell? ⟨g, i * 11 + 5, none⟩ = some (.int .i64 (l.getD i default).sq) ∧ w.cell? ⟨g, i * 11 + 6, none⟩ = some (.string (l.getD i default).ky) ∧ w.cell? ⟨g, i * 11 + 7, none⟩ = some (.string (l.getD i default).va) ∧ w.cell? ⟨g, i * 11 + 8, none⟩ = some (.int .i64 (l.getD i default).rk) ∧ w.cell? ⟨g, i * 11 + 9, none⟩ = some (.int .i64 (l.getD i default).rp) ∧ w.cell? ⟨g, i * 11 + 10, none⟩ = some (.string (l.getD i default).rv) := by
  obtain ⟨e0, e1, e2, e3, e4, e5, e6, e7, e8, e9, e10⟩ := crsC_get l i hi
  exact ⟨(h.cellAt _ (by omega)).trans e0, (h.cellAt _ (by omega)).trans e1, (h.cellAt _ (by omega)).trans e2, (h.cellAt _ (by omega)).trans e3, (h.cellAt _ (by omega)).trans e4, (h.cellAt _ (by omega)).trans e5, (h.cellAt _ (by omega)).trans e6, (h.cellAt _ (by omega)).trans e7, (h.cellAt _ (by omega)).trans e8, (h.cellAt _ (by omega)).trans e9, (h.cellAt _ (by omega)).trans e10⟩
theorem OwnCr.read {B : Nat} {w : World} {v : Value} {l : List Cr} (h : OwnCr B w v l) : Crs w v l := by
  rcases h.2 with ⟨rfl, h0⟩ | ⟨g, cap, cur, rfl, hb, hg, hn, hm, _⟩
  · obtain rfl := List.eq_nil_of_length_eq_zero h0
    exact ⟨none, 0, rfl, Nat.le_refl _, by unfold maxLen; omega, .inl rfl⟩
  · refine ⟨_, _, rfl, hn, hm, .inr ⟨g, 0, rfl, (Array.getElem?_eq_some_iff.1 hg).1, fun i hi => ?_⟩⟩
    have := OwnCr.cells h i hi rfl
    simpa using this
theorem OwnCr.kept {T : Nat → Prop} {B : Nat} {w w' : World} {v : Value} {l : List Cr} (h : OwnCr B w v l) (ht : Touch T w w') (hn : ∀ k, v.ownBlock = some k → ¬ T k) : OwnCr B w' v l := own_kept h ht hn
theorem OwnCr.below {B : Nat} {w w' : World} {v : Value} {l : List Cr} (h : OwnCr B w v l) (hb : Below w.heap.size w w') : OwnCr B w' v l := h.kept (T := fun _ => False) (Touch.ofBelow hb) (fun _ _ h => h)
theorem OwnCr.lt {B : Nat} {w : World} {v : Value} {l : List Cr} (h : OwnCr B w v l) : ∀ k, v.ownBlock = some k → B ≤ k ∧ k < w.heap.size := World.ownsRow.lt h
theorem OwnCr.down {B B' : Nat} {w : World} {v : Value} {l : List Cr} (h : OwnCr B w v l) (hB : B' ≤ B) : OwnCr B' w v l := by
  obtain ⟨hl, hc⟩ := h
  refine ⟨hl, ?_⟩
  rcases hc with h0 | ⟨g, cap, cur, hv, hg, rest⟩
  · exact .inl h0
  · exact .inr ⟨g, cap, cur, hv, by omega, rest⟩
theorem OwnCr.nil (B : Nat) (w : World) : OwnCr B w (.slice none 0 0) [] := World.ownsRow_nil w B 42 11
theorem infoCr : (Try.prog.info? 42).map (fun i => (i.zero, i.size, i.bytes)) = some (some (.agg #[.int .i64 0, .int .i64 0, .int .i64 0, .int .i64 0, .int .i64 0, .int .i64 0, .string ⟨#[]⟩, .string ⟨#[]⟩, .int .i64 0, .int .i64 0, .string ⟨#[]⟩]), 11, 112) := by kernel_rfl
theorem wrapCr (n : Int) (h0 : 0 ≤ n) (h1 : n < 9223372036854775808) : IntKind.i64.wrap n = n := by
  simp only [IntKind.wrap, IntKind.bits, IntKind.signed]
  simp
  omega
def qwF (f : Cr) : Int := (f.ky.size : Int) + (f.va.size : Int) + (f.rv.size : Int)
theorem qwF_nn (f : Cr) : 0 ≤ qwF f := by unfold qwF; omega
/-- Bytes of the texts of the first k calls. -/
def qwTo (l : List Cr) : Nat → Int
  | 0 => 0
  | k + 1 => qwTo l k + qwF (l.getD k default)
theorem qw_mono (l : List Cr) (i j : Nat) (h : i ≤ j) : qwTo l i ≤ qwTo l j := by
  induction j with
  | zero => obtain rfl : i = 0 := by omega
            exact Int.le_refl _
  | succ j ih =>
    by_cases e : i = j + 1
    · subst e; exact Int.le_refl _
    · have := ih (by omega)
      have := qwF_nn (l.getD j default)
      show _ ≤ qwTo l j + _
      omega
def qszR (L : Int) (l : List Cr) : Int := if (l.length : Int) + qwTo l l.length ≤ L then L - (l.length : Int) - qwTo l l.length else -1
def qszF (f : Cr) (left : Int) : Int := if left - qwF f < 0 then -1 else left - qwF f
theorem qszR_cases (L : Int) (l : List Cr) : qszR L l = -1 ∨ (0 ≤ qszR L l ∧ qszR L l ≤ L) := by
  have hw0 := qw_mono l 0 l.length (Nat.zero_le _)
  have hw00 : qwTo l 0 = 0 := rfl
  unfold qszR; split
  · right; omega
  · left; rfl
theorem qsmall_of (L : Int) (hL : L ≤ 1048576) (l : List Cr) (h : 0 ≤ qszR L l) : l.length ≤ 1048576 ∧ ∀ i, (l.getD i default).ky.size ≤ 1048576 ∧ (l.getD i default).va.size ≤ 1048576 ∧ (l.getD i default).rv.size ≤ 1048576 := by
  have h1 : (l.length : Int) + qwTo l l.length ≤ L := by
    unfold qszR at h
    split at h
    · assumption
    · omega
  have hw0 := qw_mono l 0 l.length (Nat.zero_le _)
  have hw00 : qwTo l 0 = 0 := rfl
  refine ⟨by omega, fun i => ?_⟩
  by_cases hi : i < l.length
  · have e2 : qwTo l (i + 1) = qwTo l i + qwF (l.getD i default) := rfl
    have := qw_mono l (i + 1) l.length (by omega)
    have := qw_mono l 0 i (Nat.zero_le _)
    unfold qwF at e2
    refine ⟨by omega, by omega, by omega⟩
  · rw [List.getD_eq_getElem?_getD, List.getElem?_eq_none (by omega)]
    simp only [Option.getD_none]
    have e6 : (default : Cr).ky.size = 0 := rfl
    have e7 : (default : Cr).va.size = 0 := rfl
    have e10 : (default : Cr).rv.size = 0 := rfl
    refine ⟨by omega, by omega, by omega⟩
set_option maxRecDepth 100000 in
set_option maxHeartbeats 1000000 in
theorem szCommand_one (f3 : Int) (f4 : Int) (f5 : Int) (f6 : ByteArray) (f7 : ByteArray) (left : Int) (w : World) (h0 : 0 ≤ left) (h1 : left ≤ 1048576) (hd6 : f6.size ≤ maxLen) (hd7 : f7.size ≤ maxLen) :
    Calls Try.prog 16 #[.agg #[.int .i64 f3, .int .i64 f4, .int .i64 f5, .string f6, .string f7], .int .i64 left] w fun e w' => e = .returned (.int .i64 (if left - ((f6.size : Int) + (f7.size : Int)) < 0 then -1 else left - ((f6.size : Int) + (f7.size : Int)))) ∧ Below w.heap.size w w' := by
  unfold maxLen at hd6 hd7
  have E : Hid (∀ r : Int, ((left - ((f6.size : Int) + (f7.size : Int)) < 0 → r = -1) ∧ (¬ left - ((f6.size : Int) + (f7.size : Int)) < 0 → r = left - ((f6.size : Int) + (f7.size : Int)))) → r = if left - ((f6.size : Int) + (f7.size : Int)) < 0 then -1 else left - ((f6.size : Int) + (f7.size : Int))) := hide (fun r hr => by split <;> omega)
  generalize (if left - ((f6.size : Int) + (f7.size : Int)) < 0 then -1 else left - ((f6.size : Int) + (f7.size : Int))) = R at E ⊢
  by_cases q6 : left - (f6.size : Int) < 0
  · have E1 := hide (unhide E (-1) ⟨fun _ => rfl, fun h => by omega⟩)
    clear E
    go_enter Try.func16, Try.ntmps16
    go_wp2_with fail
    go_ret
    exact ⟨ret_int (unhide E1), (Below.refl _ _).alloc (Nat.le_refl _) _⟩
  by_cases q7 : left - (f6.size : Int) - (f7.size : Int) < 0
  · have E1 := hide (unhide E (-1) ⟨fun _ => rfl, fun h => by omega⟩)
    clear E
    go_enter Try.func16, Try.ntmps16
    go_wp2_with fail
    go_ret
    exact ⟨ret_int (unhide E1), (Below.refl _ _).alloc (Nat.le_refl _) _⟩
  have E1 := hide (unhide E (left - (f6.size : Int) - (f7.size : Int)) ⟨fun h => by omega, fun h => by omega⟩)
  clear E
  go_enter Try.func16, Try.ntmps16
  go_wp2_with fail
  go_ret
  exact ⟨ret_int (unhide E1), (Below.refl _ _).alloc (Nat.le_refl _) _⟩
set_option maxRecDepth 100000 in
set_option maxHeartbeats 1000000 in
theorem toCommand_one (f3 : Int) (f4 : Int) (f5 : Int) (f6 : ByteArray) (f7 : ByteArray) (w : World) :
    Calls Try.prog 18 #[.agg #[.int .i64 f3, .int .i64 f4, .int .i64 f5, .string f6, .string f7]] w fun e w' => e = .returned (.agg #[.int .i64 f3, .int .i64 f4, .int .i64 f5, .string f6, .string f7]) ∧ Below w.heap.size w w' := by
  go_enter Try.func18, Try.ntmps18
  go_wp2_with fail
  refine bodyPost_ret (v := .agg #[.int .i64 f3, .int .i64 f4, .int .i64 f5, .string f6, .string f7]) (by simp [results, Try.results18, go_sem]) rfl ⟨rfl, ?_⟩
  exact (((Below.refl _ _).alloc (Nat.le_refl _) _).alloc (by simp) _).alloc (by simp; omega) _
set_option maxRecDepth 100000 in
set_option maxHeartbeats 1000000 in
theorem eqCommand_one (f3 : Int) (f4 : Int) (f5 : Int) (f6 : ByteArray) (f7 : ByteArray) (w : World) :
    Calls Try.prog 21 #[.agg #[.int .i64 f3, .int .i64 f4, .int .i64 f5, .string f6, .string f7], .agg #[.int .i64 f3, .int .i64 f4, .int .i64 f5, .string f6, .string f7]] w fun e w' => e = .returned (.bool true) ∧ Below w.heap.size w w' := by
  go_enter Try.func21, Try.ntmps21
  go_wp2_with fail
  go_ret
  exact ⟨rfl, ((Below.refl _ _).alloc (Nat.le_refl _) _).alloc (by simp) _⟩
set_option maxRecDepth 100000 in
set_option maxHeartbeats 1000000 in
theorem szReply_one (f8 : Int) (f9 : Int) (f10 : ByteArray) (left : Int) (w : World) (h0 : 0 ≤ left) (h1 : left ≤ 1048576) (hd10 : f10.size ≤ maxLen) :
    Calls Try.prog 17 #[.agg #[.int .i64 f8, .int .i64 f9, .string f10], .int .i64 left] w fun e w' => e = .returned (.int .i64 (if left - ((f10.size : Int)) < 0 then -1 else left - ((f10.size : Int)))) ∧ Below w.heap.size w w' := by
  unfold maxLen at hd10
  have E : Hid (∀ r : Int, ((left - ((f10.size : Int)) < 0 → r = -1) ∧ (¬ left - ((f10.size : Int)) < 0 → r = left - ((f10.size : Int)))) → r = if left - ((f10.size : Int)) < 0 then -1 else left - ((f10.size : Int))) := hide (fun r hr => by split <;> omega)
  generalize (if left - ((f10.size : Int)) < 0 then -1 else left - ((f10.size : Int))) = R at E ⊢
  by_cases q10 : left - (f10.size : Int) < 0
  · have E1 := hide (unhide E (-1) ⟨fun _ => rfl, fun h => by omega⟩)
    clear E
    go_enter Try.func17, Try.ntmps17
    go_wp2_with fail
    go_ret
    exact ⟨ret_int (unhide E1), (Below.refl _ _).alloc (Nat.le_refl _) _⟩
  have E1 := hide (unhide E (left - (f10.size : Int)) ⟨fun h => by omega, fun h => by omega⟩)
  clear E
  go_enter Try.func17, Try.ntmps17
  go_wp2_with fail
  go_ret
  exact ⟨ret_int (unhide E1), (Below.refl _ _).alloc (Nat.le_refl _) _⟩
set_option maxRecDepth 100000 in
set_option maxHeartbeats 1000000 in
theorem toReply_one (f8 : Int) (f9 : Int) (f10 : ByteArray) (w : World) :
    Calls Try.prog 19 #[.agg #[.int .i64 f8, .int .i64 f9, .string f10]] w fun e w' => e = .returned (.agg #[.int .i64 f8, .int .i64 f9, .string f10]) ∧ Below w.heap.size w w' := by
  go_enter Try.func19, Try.ntmps19
  go_wp2_with fail
  refine bodyPost_ret (v := .agg #[.int .i64 f8, .int .i64 f9, .string f10]) (by simp [results, Try.results19, go_sem]) rfl ⟨rfl, ?_⟩
  exact (((Below.refl _ _).alloc (Nat.le_refl _) _).alloc (by simp) _).alloc (by simp; omega) _
set_option maxRecDepth 100000 in
set_option maxHeartbeats 1000000 in
theorem eqReply_one (f8 : Int) (f9 : Int) (f10 : ByteArray) (w : World) :
    Calls Try.prog 22 #[.agg #[.int .i64 f8, .int .i64 f9, .string f10], .agg #[.int .i64 f8, .int .i64 f9, .string f10]] w fun e w' => e = .returned (.bool true) ∧ Below w.heap.size w w' := by
  go_enter Try.func22, Try.ntmps22
  go_wp2_with fail
  go_ret
  exact ⟨rfl, ((Below.refl _ _).alloc (Nat.le_refl _) _).alloc (by simp) _⟩
set_option maxRecDepth 100000 in
set_option maxHeartbeats 1000000 in
theorem szCallRecord_any (f : Cr) (left : Int) (w : World) (h0 : 0 ≤ left) (h1 : left ≤ 1048576) (hd6 : f.ky.size ≤ maxLen) (hd7 : f.va.size ≤ maxLen) (hd10 : f.rv.size ≤ maxLen) :
    Calls Try.prog 9 #[.agg #[.int .i64 f.cl, .int .i64 f.bg, .int .i64 f.en, .int .i64 f.kd, .int .i64 f.ss, .int .i64 f.sq, .string f.ky, .string f.va, .int .i64 f.rk, .int .i64 f.rp, .string f.rv], .int .i64 left] w fun e w' => e = .returned (.int .i64 (qszF f left)) ∧ Below w.heap.size w w' := by
  obtain ⟨f0, f1, f2, f3, f4, f5, f6, f7, f8, f9, f10⟩ := f
  dsimp only at hd6 hd7 hd10 ⊢
  have E : Hid (∀ r : Int, ((left - ((f6.size : Int) + (f7.size : Int) + (f10.size : Int)) < 0 → r = -1) ∧ (¬ left - ((f6.size : Int) + (f7.size : Int) + (f10.size : Int)) < 0 → r = left - ((f6.size : Int) + (f7.size : Int) + (f10.size : Int)))) → r = qszF ⟨f0, f1, f2, f3, f4, f5, f6, f7, f8, f9, f10⟩ left) := hide (fun r hr => by unfold qszF qwF; dsimp only; split <;> omega)
  have B0 := hide ((Below.refl w.heap.size w).alloc (Nat.le_refl _) (.cells #[.int .i64 f0, .int .i64 f1, .int .i64 f2, .int .i64 f3, .int .i64 f4, .int .i64 f5, .string f6, .string f7, .int .i64 f8, .int .i64 f9, .string f10] 36))
  have A0 := hide (Blk.new w #[.int .i64 f0, .int .i64 f1, .int .i64 f2, .int .i64 f3, .int .i64 f4, .int .i64 f5, .string f6, .string f7, .int .i64 f8, .int .i64 f9, .string f10] 36 w.heap.size rfl)
  go_enter Try.func9, Try.ntmps9
  have HN := hide (fun wx => szCommand_one f3 f4 f5 f6 f7 (left) wx (by omega) (by omega) hd6 hd7)
  by_cases r0 : left - ((f6.size : Int) + (f7.size : Int)) < 0
  · rw [if_pos r0] at HN
    have E1 := hide (unhide E (-1) ⟨fun _ => rfl, fun h => by omega⟩)
    clear E
    go_wp2_with fail
    refine (unhide HN _).mono ?_
    rintro e w1 ⟨rfl, hb1⟩
    have B1 := hide ((unhide B0).trans (hb1.mono (unhide B0).size))
    clear hb1 HN
    go_wp2_with fail
    go_ret
    exact ⟨ret_int (unhide E1), unhide B1⟩
  rw [if_neg r0] at HN
  go_wp2_with fail
  refine (unhide HN _).mono ?_
  rintro e wn0 ⟨rfl, hb1⟩
  have Bn0 := hide ((unhide B0).trans (hb1.mono (unhide B0).size))
  have An0 := hide ((unhide A0).below hb1)
  have a0_0 := (unhide An0).cell 0 rfl
  have a0_1 := (unhide An0).cell 1 rfl
  have a0_2 := (unhide An0).cell 2 rfl
  have a0_3 := (unhide An0).cell 3 rfl
  have a0_4 := (unhide An0).cell 4 rfl
  have a0_5 := (unhide An0).cell 5 rfl
  have a0_6 := (unhide An0).cell 6 rfl
  have a0_7 := (unhide An0).cell 7 rfl
  have a0_8 := (unhide An0).cell 8 rfl
  have a0_9 := (unhide An0).cell 9 rfl
  have a0_10 := (unhide An0).cell 10 rfl
  clear hb1 HN B0 A0
  have HN := hide (fun wx => szReply_one f8 f9 f10 (left - ((f6.size : Int) + (f7.size : Int))) wx (by omega) (by omega) hd10)
  by_cases r1 : left - ((f6.size : Int) + (f7.size : Int)) - ((f10.size : Int)) < 0
  · rw [if_pos r1] at HN
    have E1 := hide (unhide E (-1) ⟨fun _ => rfl, fun h => by omega⟩)
    clear E
    go_wp2_with fail
    refine (unhide HN _).mono ?_
    rintro e w1 ⟨rfl, hb1⟩
    have B1 := hide ((unhide Bn0).trans (hb1.mono (unhide Bn0).size))
    clear hb1 HN
    go_wp2_with fail
    go_ret
    exact ⟨ret_int (unhide E1), unhide B1⟩
  rw [if_neg r1] at HN
  go_wp2_with fail
  refine (unhide HN _).mono ?_
  rintro e wn1 ⟨rfl, hb1⟩
  have Bn1 := hide ((unhide Bn0).trans (hb1.mono (unhide Bn0).size))
  have An1 := hide ((unhide An0).below hb1)
  have a1_0 := (unhide An1).cell 0 rfl
  have a1_1 := (unhide An1).cell 1 rfl
  have a1_2 := (unhide An1).cell 2 rfl
  have a1_3 := (unhide An1).cell 3 rfl
  have a1_4 := (unhide An1).cell 4 rfl
  have a1_5 := (unhide An1).cell 5 rfl
  have a1_6 := (unhide An1).cell 6 rfl
  have a1_7 := (unhide An1).cell 7 rfl
  have a1_8 := (unhide An1).cell 8 rfl
  have a1_9 := (unhide An1).cell 9 rfl
  have a1_10 := (unhide An1).cell 10 rfl
  clear hb1 HN Bn0 An0
  have E1 := hide (unhide E (left - ((f6.size : Int) + (f7.size : Int)) - ((f10.size : Int))) ⟨fun h => by omega, fun h => by omega⟩)
  clear E
  go_wp2_with fail
  go_ret
  exact ⟨ret_int (unhide E1), unhide Bn1⟩
set_option maxRecDepth 100000 in
set_option maxHeartbeats 1000000 in
theorem szCallRecordS_any (L : Int) (hL0 : 0 ≤ L) (hL1 : L ≤ 1048576) (v : Value) (l : List Cr) (w : World) (h : Crs w v l) (hz : ∀ i, i < l.length → (l.getD i default).ky.size ≤ maxLen ∧ (l.getD i default).va.size ≤ maxLen ∧ (l.getD i default).rv.size ≤ maxLen) :
    Calls Try.prog 4 #[v, .int .i64 L] w fun e w' => e = .returned (.int .i64 (qszR L l)) ∧ Below w.heap.size w w' := by
  obtain ⟨a, cap, rfl, hn, hm, hc⟩ := h
  have HC := hide hc
  have HZ := hide hz
  have hlm : l.length ≤ 9223372036854775807 := by unfold maxLen at hm; omega
  clear hc hz hm hn
  have hw0 := qw_mono l 0 l.length (Nat.zero_le _)
  have hw00 : qwTo l 0 = 0 := rfl
  by_cases hl : L < l.length
  · have E : Hid (qszR L l = -1) := hide (by unfold qszR; rw [if_neg (by omega)])
    have hl2 : L - (l.length : Int) < 0 := by omega
    go_enter Try.func4, Try.ntmps4
    go_wp2_with fail
    go_ret
    exact ⟨ret_int (unhide E).symm, Below.refl _ _⟩
  · have hl2 : ¬ L - (l.length : Int) < 0 := by omega
    go_enter Try.func4, Try.ntmps4
    go_wp2_with fail
    go_loopw [1, 5] (fun lf i wr => ∃ (k : Nat) (x : Int), k ≤ l.length ∧ i = .int .i64 k ∧ lf = .int .i64 x ∧ x = L - (l.length : Int) - qwTo l k ∧ 0 ≤ x ∧ Below w.heap.size w wr) (fun _ i _ => l.length - (intOf i).toNat)
    case atStart => exact ⟨0, _, Nat.zero_le _, rfl, rfl, by rw [hw00]; omega, by omega, Below.refl _ _⟩
    case round =>
      obtain ⟨k, x, hk, rfl, rfl, hx, hx0, hb⟩ := hrel
      by_cases hlt : k < l.length
      · obtain ⟨b, off, rfl, hbl, hsrc⟩ : ∃ b off, a = some ⟨b, off, none⟩ ∧ b < w.heap.size ∧ ∀ i, i < l.length → w.cell? ⟨b, off + i * 11, none⟩ = some (.int .i64 (l.getD i default).cl) ∧ w.cell? ⟨b, off + i * 11 + 1, none⟩ = some (.int .i64 (l.getD i default).bg) ∧ w.cell? ⟨b, off + i * 11 + 2, none⟩ = some (.int .i64 (l.getD i default).en) ∧ w.cell? ⟨b, off + i * 11 + 3, none⟩ = some (.int .i64 (l.getD i default).kd) ∧ w.cell? ⟨b, off + i * 11 + 4, none⟩ = some (.int .i64 (l.getD i default).ss) ∧ w.cell? ⟨b, off + i * 11 + 5, none⟩ = some (.int .i64 (l.getD i default).sq) ∧ w.cell? ⟨b, off + i * 11 + 6, none⟩ = some (.string (l.getD i default).ky) ∧ w.cell? ⟨b, off + i * 11 + 7, none⟩ = some (.string (l.getD i default).va) ∧ w.cell? ⟨b, off + i * 11 + 8, none⟩ = some (.int .i64 (l.getD i default).rk) ∧ w.cell? ⟨b, off + i * 11 + 9, none⟩ = some (.int .i64 (l.getD i default).rp) ∧ w.cell? ⟨b, off + i * 11 + 10, none⟩ = some (.string (l.getD i default).rv) := by
          rcases unhide HC with h0 | h1
          · omega
          · exact h1
        obtain ⟨s0, s1, s2, s3, s4, s5, s6, s7, s8, s9, s10⟩ := hsrc k hlt
        have c0 := (hb.cell (p := ⟨b, off + k * 11, none⟩) hbl).trans s0
        have c1 := (hb.cell (p := ⟨b, off + k * 11 + 1, none⟩) hbl).trans s1
        have c2 := (hb.cell (p := ⟨b, off + k * 11 + 2, none⟩) hbl).trans s2
        have c3 := (hb.cell (p := ⟨b, off + k * 11 + 3, none⟩) hbl).trans s3
        have c4 := (hb.cell (p := ⟨b, off + k * 11 + 4, none⟩) hbl).trans s4
        have c5 := (hb.cell (p := ⟨b, off + k * 11 + 5, none⟩) hbl).trans s5
        have c6 := (hb.cell (p := ⟨b, off + k * 11 + 6, none⟩) hbl).trans s6
        have c7 := (hb.cell (p := ⟨b, off + k * 11 + 7, none⟩) hbl).trans s7
        have c8 := (hb.cell (p := ⟨b, off + k * 11 + 8, none⟩) hbl).trans s8
        have c9 := (hb.cell (p := ⟨b, off + k * 11 + 9, none⟩) hbl).trans s9
        have c10 := (hb.cell (p := ⟨b, off + k * 11 + 10, none⟩) hbl).trans s10
        have hk0 : (0 : Int) ≤ (k : Int) := by omega
        have hk1 : (k : Int) < (l.length : Int) := by omega
        have hwk := qw_mono l 0 k (Nat.zero_le _)
        have hwl := qw_mono l (k + 1) l.length (by omega)
        have hws : qwTo l (k + 1) = qwTo l k + qwF (l.getD k default) := rfl
        have hz := unhide HZ k hlt
        have hx1 : x ≤ 1048576 := by omega
        have hbs := hb.size
        have HB := hide hb
        clear hsrc s0 s1 s2 s3 s4 s5 s6 s7 s8 s9 s10 hb
        generalize l.getD k default = f at *
        have HSZ := hide (fun wx => szCallRecord_any f x wx hx0 hx1 (hz.1) (hz.2.1) (hz.2.2))
        have HSF : Hid (qszF f x = if x - qwF f < 0 then -1 else x - qwF f) := rfl
        obtain ⟨r, hr⟩ : ∃ r, r = qszF f x := ⟨_, rfl⟩
        rw [← hr] at HSZ HSF
        have HW := hide (And.intro hwl (And.intro hws hx))
        clear hr hwl hws hx hwk hw0 hw00 hz
        generalize qwF f = wf at *
        obtain ⟨f0, f1, f2, f3, f4, f5, f6, f7, f8, f9, f10⟩ := f
        dsimp only at c0 c1 c2 c3 c4 c5 c6 c7 c8 c9 c10 HSZ
        go_wp2_with fail
        refine (unhide HSZ wr).mono ?_
        rintro e w2 ⟨rfl, hb2⟩
        have HB2 := hide ((unhide HB).trans (hb2.mono hbs))
        clear hb2 HB HSZ
        by_cases hr0 : r < 0
        · have E : Hid (qszR L l = -1) := hide (by
            obtain ⟨h1, h2, h3⟩ := unhide HW
            have h4 := unhide HSF
            unfold qszR; rw [if_neg]
            split at h4 <;> omega)
          go_wp2_with fail
          go_ret
          exact ⟨ret_int (unhide E).symm, unhide HB2⟩
        · go_wp2_with fail
          refine ⟨⟨k + 1, r, by omega, by go_num, rfl, ?_, by omega, unhide HB2⟩, ?_⟩
          · obtain ⟨h1, h2, h3⟩ := unhide HW
            have h4 := unhide HSF
            split at h4 <;> omega
          · simp [intOf]; omega
      · obtain rfl : k = l.length := by omega
        have E : Hid (qszR L l = x) := hide (by unfold qszR; rw [if_pos (by omega)]; omega)
        have R := hide hb
        clear hb hx
        go_wp2_with fail
        go_ret
        exact ⟨ret_int (unhide E).symm, unhide R⟩
set_option maxRecDepth 100000 in
set_option maxHeartbeats 2000000 in
theorem toCallRecord_any (f : Cr) (w : World) :
    Calls Try.prog 12 #[.agg #[.int .i64 f.cl, .int .i64 f.bg, .int .i64 f.en, .int .i64 f.kd, .int .i64 f.ss, .int .i64 f.sq, .string f.ky, .string f.va, .int .i64 f.rk, .int .i64 f.rp, .string f.rv]] w fun e w' => e = .returned (.agg #[.int .i64 f.cl, .int .i64 f.bg, .int .i64 f.en, .int .i64 f.kd, .int .i64 f.ss, .int .i64 f.sq, .string f.ky, .string f.va, .int .i64 f.rk, .int .i64 f.rp, .string f.rv]) ∧ Below w.heap.size w w' := by
  obtain ⟨f0, f1, f2, f3, f4, f5, f6, f7, f8, f9, f10⟩ := f
  dsimp only
  have HN0 := hide (fun wx => toCommand_one f3 f4 f5 f6 f7 wx)
  have HN1 := hide (fun wx => toReply_one f8 f9 f10 wx)
  go_enter Try.func12, Try.ntmps12
  go_wp2_with fail
  have B3 := hide ((((Below.refl w.heap.size w).alloc (Nat.le_refl _) (.cells #[.int .i64 f0, .int .i64 f1, .int .i64 f2, .int .i64 f3, .int .i64 f4, .int .i64 f5, .string f6, .string f7, .int .i64 f8, .int .i64 f9, .string f10] 36)).alloc (by simp) (.cells #[.int .i64 0, .int .i64 0, .int .i64 0, .int .i64 0, .int .i64 0, .int .i64 0, .string ⟨#[]⟩, .string ⟨#[]⟩, .int .i64 0, .int .i64 0, .string ⟨#[]⟩] 42)).alloc (by simp; omega) (.cells #[.int .i64 f0, .int .i64 f1, .int .i64 f2, .int .i64 0, .int .i64 0, .int .i64 0, .string ⟨#[]⟩, .string ⟨#[]⟩, .int .i64 0, .int .i64 0, .string ⟨#[]⟩] 42))
  have A3 := hide (((Blk.new w #[.int .i64 f0, .int .i64 f1, .int .i64 f2, .int .i64 f3, .int .i64 f4, .int .i64 f5, .string f6, .string f7, .int .i64 f8, .int .i64 f9, .string f10] 36 w.heap.size rfl).alloc (.cells #[.int .i64 0, .int .i64 0, .int .i64 0, .int .i64 0, .int .i64 0, .int .i64 0, .string ⟨#[]⟩, .string ⟨#[]⟩, .int .i64 0, .int .i64 0, .string ⟨#[]⟩] 42)).alloc (.cells #[.int .i64 f0, .int .i64 f1, .int .i64 f2, .int .i64 0, .int .i64 0, .int .i64 0, .string ⟨#[]⟩, .string ⟨#[]⟩, .int .i64 0, .int .i64 0, .string ⟨#[]⟩] 42))
  have X3 := hide (Blk.new ((w.alloc (.cells #[.int .i64 f0, .int .i64 f1, .int .i64 f2, .int .i64 f3, .int .i64 f4, .int .i64 f5, .string f6, .string f7, .int .i64 f8, .int .i64 f9, .string f10] 36)).alloc (.cells #[.int .i64 0, .int .i64 0, .int .i64 0, .int .i64 0, .int .i64 0, .int .i64 0, .string ⟨#[]⟩, .string ⟨#[]⟩, .int .i64 0, .int .i64 0, .string ⟨#[]⟩] 42)) #[.int .i64 f0, .int .i64 f1, .int .i64 f2, .int .i64 0, .int .i64 0, .int .i64 0, .string ⟨#[]⟩, .string ⟨#[]⟩, .int .i64 0, .int .i64 0, .string ⟨#[]⟩] 42 (w.heap.size + 1 + 1) (by simp))
  have Y3 := hide ((Blk.new (w.alloc (.cells #[.int .i64 f0, .int .i64 f1, .int .i64 f2, .int .i64 f3, .int .i64 f4, .int .i64 f5, .string f6, .string f7, .int .i64 f8, .int .i64 f9, .string f10] 36)) #[.int .i64 0, .int .i64 0, .int .i64 0, .int .i64 0, .int .i64 0, .int .i64 0, .string ⟨#[]⟩, .string ⟨#[]⟩, .int .i64 0, .int .i64 0, .string ⟨#[]⟩] 42 (w.heap.size + 1) (by simp)).alloc (.cells #[.int .i64 f0, .int .i64 f1, .int .i64 f2, .int .i64 0, .int .i64 0, .int .i64 0, .string ⟨#[]⟩, .string ⟨#[]⟩, .int .i64 0, .int .i64 0, .string ⟨#[]⟩] 42))
  generalize ((w.alloc (.cells #[.int .i64 f0, .int .i64 f1, .int .i64 f2, .int .i64 f3, .int .i64 f4, .int .i64 f5, .string f6, .string f7, .int .i64 f8, .int .i64 f9, .string f10] 36)).alloc (.cells #[.int .i64 0, .int .i64 0, .int .i64 0, .int .i64 0, .int .i64 0, .int .i64 0, .string ⟨#[]⟩, .string ⟨#[]⟩, .int .i64 0, .int .i64 0, .string ⟨#[]⟩] 42)).alloc (.cells #[.int .i64 f0, .int .i64 f1, .int .i64 f2, .int .i64 0, .int .i64 0, .int .i64 0, .string ⟨#[]⟩, .string ⟨#[]⟩, .int .i64 0, .int .i64 0, .string ⟨#[]⟩] 42) = w3 at *
  refine (unhide HN0 w3).mono ?_
  rintro e w0a ⟨rfl, hb4⟩
  have X0a := (unhide X3).below hb4
  have Y0a := (unhide Y3).below hb4
  have A0a := (unhide A3).below hb4
  have B0a := hide ((unhide B3).trans (hb4.mono (unhide B3).size))
  clear hb4 B3 X3 Y3 A3 HN0
  have c0_3 := X0a.cell 3 rfl
  have d0_3 := X0a.fro 3
  have c0_4 := X0a.cell 4 rfl
  have d0_4 := X0a.fro 4
  have c0_5 := X0a.cell 5 rfl
  have d0_5 := X0a.fro 5
  have c0_6 := X0a.cell 6 rfl
  have d0_6 := X0a.fro 6
  have c0_7 := X0a.cell 7 rfl
  have d0_7 := X0a.fro 7
  have e0_0 := A0a.cell 0 rfl
  have e0_1 := A0a.cell 1 rfl
  have e0_2 := A0a.cell 2 rfl
  have e0_3 := A0a.cell 3 rfl
  have e0_4 := A0a.cell 4 rfl
  have e0_5 := A0a.cell 5 rfl
  have e0_6 := A0a.cell 6 rfl
  have e0_7 := A0a.cell 7 rfl
  have e0_8 := A0a.cell 8 rfl
  have e0_9 := A0a.cell 9 rfl
  have e0_10 := A0a.cell 10 rfl
  have X0b := hide (((((X0a.set 3 (.int .i64 f3) (by simp)).set 4 (.int .i64 f4) (by simp)).set 5 (.int .i64 f5) (by simp)).set 6 (.string f6) (by simp)).set 7 (.string f7) (by simp))
  have Y0b := hide (((((Y0a.other (C := w.heap.size + 1 + 1) 3 (.int .i64 f3) (by omega)).other (C := w.heap.size + 1 + 1) 4 (.int .i64 f4) (by omega)).other (C := w.heap.size + 1 + 1) 5 (.int .i64 f5) (by omega)).other (C := w.heap.size + 1 + 1) 6 (.string f6) (by omega)).other (C := w.heap.size + 1 + 1) 7 (.string f7) (by omega))
  have A0b := hide (((((A0a.other (C := w.heap.size + 1 + 1) 3 (.int .i64 f3) (by omega)).other (C := w.heap.size + 1 + 1) 4 (.int .i64 f4) (by omega)).other (C := w.heap.size + 1 + 1) 5 (.int .i64 f5) (by omega)).other (C := w.heap.size + 1 + 1) 6 (.string f6) (by omega)).other (C := w.heap.size + 1 + 1) 7 (.string f7) (by omega))
  have B0b := hide ((((((unhide B0a).setCell (p := ⟨w.heap.size + 1 + 1, 3, none⟩) (by simp; omega) (.int .i64 f3)).setCell (p := ⟨w.heap.size + 1 + 1, 4, none⟩) (by simp; omega) (.int .i64 f4)).setCell (p := ⟨w.heap.size + 1 + 1, 5, none⟩) (by simp; omega) (.int .i64 f5)).setCell (p := ⟨w.heap.size + 1 + 1, 6, none⟩) (by simp; omega) (.string f6)).setCell (p := ⟨w.heap.size + 1 + 1, 7, none⟩) (by simp; omega) (.string f7))
  clear X0a Y0a A0a B0a
  have g0_0 := (unhide A0b).cell 0 rfl
  have g0_1 := (unhide A0b).cell 1 rfl
  have g0_2 := (unhide A0b).cell 2 rfl
  have g0_3 := (unhide A0b).cell 3 rfl
  have g0_4 := (unhide A0b).cell 4 rfl
  have g0_5 := (unhide A0b).cell 5 rfl
  have g0_6 := (unhide A0b).cell 6 rfl
  have g0_7 := (unhide A0b).cell 7 rfl
  have g0_8 := (unhide A0b).cell 8 rfl
  have g0_9 := (unhide A0b).cell 9 rfl
  have g0_10 := (unhide A0b).cell 10 rfl
  simp only [List.set_cons_succ, List.set_cons_zero] at X0b
  go_wp2_with fail
  clear e0_0 g0_0 e0_1 g0_1 e0_2 g0_2 e0_3 g0_3 e0_4 g0_4 e0_5 g0_5 e0_6 g0_6 e0_7 g0_7 e0_8 g0_8 e0_9 g0_9 e0_10 g0_10 c0_3 d0_3 c0_4 d0_4 c0_5 d0_5 c0_6 d0_6 c0_7 d0_7
  generalize (((((w0a.setCell ⟨w.heap.size + 1 + 1, 3, none⟩ (.int .i64 f3)).setCell ⟨w.heap.size + 1 + 1, 4, none⟩ (.int .i64 f4)).setCell ⟨w.heap.size + 1 + 1, 5, none⟩ (.int .i64 f5)).setCell ⟨w.heap.size + 1 + 1, 6, none⟩ (.string f6)).setCell ⟨w.heap.size + 1 + 1, 7, none⟩ (.string f7)) = w0b at *
  refine (unhide HN1 w0b).mono ?_
  rintro e w1a ⟨rfl, hb4⟩
  have X1a := (unhide X0b).below hb4
  have Y1a := (unhide Y0b).below hb4
  have A1a := (unhide A0b).below hb4
  have B1a := hide ((unhide B0b).trans (hb4.mono (unhide B0b).size))
  clear hb4 B0b X0b Y0b A0b HN1
  have c1_8 := X1a.cell 8 rfl
  have d1_8 := X1a.fro 8
  have c1_9 := X1a.cell 9 rfl
  have d1_9 := X1a.fro 9
  have c1_10 := X1a.cell 10 rfl
  have d1_10 := X1a.fro 10
  have y0 := Y1a.cell 0 rfl
  have h0x := Y1a.fro 0
  have y1 := Y1a.cell 1 rfl
  have h1x := Y1a.fro 1
  have y2 := Y1a.cell 2 rfl
  have h2x := Y1a.fro 2
  have y3 := Y1a.cell 3 rfl
  have h3x := Y1a.fro 3
  have y4 := Y1a.cell 4 rfl
  have h4x := Y1a.fro 4
  have y5 := Y1a.cell 5 rfl
  have h5x := Y1a.fro 5
  have y6 := Y1a.cell 6 rfl
  have h6x := Y1a.fro 6
  have y7 := Y1a.cell 7 rfl
  have h7x := Y1a.fro 7
  have y8 := Y1a.cell 8 rfl
  have h8x := Y1a.fro 8
  have y9 := Y1a.cell 9 rfl
  have h9x := Y1a.fro 9
  have y10 := Y1a.cell 10 rfl
  have h10x := Y1a.fro 10
  have X5 := (((X1a.set 8 (.int .i64 f8) (by simp)).set 9 (.int .i64 f9) (by simp)).set 10 (.string f10) (by simp))
  have Y5 := (((Y1a.other (C := w.heap.size + 1 + 1) 8 (.int .i64 f8) (by omega)).other (C := w.heap.size + 1 + 1) 9 (.int .i64 f9) (by omega)).other (C := w.heap.size + 1 + 1) 10 (.string f10) (by omega))
  have x50 := X5.cell 0 rfl
  have y50 := Y5.cell 0 rfl
  have fy50 := Y5.fro 0
  have x51 := X5.cell 1 rfl
  have y51 := Y5.cell 1 rfl
  have fy51 := Y5.fro 1
  have x52 := X5.cell 2 rfl
  have y52 := Y5.cell 2 rfl
  have fy52 := Y5.fro 2
  have x53 := X5.cell 3 rfl
  have y53 := Y5.cell 3 rfl
  have fy53 := Y5.fro 3
  have x54 := X5.cell 4 rfl
  have y54 := Y5.cell 4 rfl
  have fy54 := Y5.fro 4
  have x55 := X5.cell 5 rfl
  have y55 := Y5.cell 5 rfl
  have fy55 := Y5.fro 5
  have x56 := X5.cell 6 rfl
  have y56 := Y5.cell 6 rfl
  have fy56 := Y5.fro 6
  have x57 := X5.cell 7 rfl
  have y57 := Y5.cell 7 rfl
  have fy57 := Y5.fro 7
  have x58 := X5.cell 8 rfl
  have y58 := Y5.cell 8 rfl
  have fy58 := Y5.fro 8
  have x59 := X5.cell 9 rfl
  have y59 := Y5.cell 9 rfl
  have fy59 := Y5.fro 9
  have x510 := X5.cell 10 rfl
  have y510 := Y5.cell 10 rfl
  have fy510 := Y5.fro 10
  have Z6 := (((((((((((Y5.set 0 (.int .i64 f0) (by simp)).set 1 (.int .i64 f1) (by simp)).set 2 (.int .i64 f2) (by simp)).set 3 (.int .i64 f3) (by simp)).set 4 (.int .i64 f4) (by simp)).set 5 (.int .i64 f5) (by simp)).set 6 (.string f6) (by simp)).set 7 (.string f7) (by simp)).set 8 (.int .i64 f8) (by simp)).set 9 (.int .i64 f9) (by simp)).set 10 (.string f10) (by simp))
  have z60 := Z6.cell 0 rfl
  have z61 := Z6.cell 1 rfl
  have z62 := Z6.cell 2 rfl
  have z63 := Z6.cell 3 rfl
  have z64 := Z6.cell 4 rfl
  have z65 := Z6.cell 5 rfl
  have z66 := Z6.cell 6 rfl
  have z67 := Z6.cell 7 rfl
  have z68 := Z6.cell 8 rfl
  have z69 := Z6.cell 9 rfl
  have z610 := Z6.cell 10 rfl
  have B6 := hide (((((((((((((((unhide B1a).setCell (p := ⟨w.heap.size + 1 + 1, 8, none⟩) (by simp; omega) (.int .i64 f8)).setCell (p := ⟨w.heap.size + 1 + 1, 9, none⟩) (by simp; omega) (.int .i64 f9)).setCell (p := ⟨w.heap.size + 1 + 1, 10, none⟩) (by simp; omega) (.string f10)).setCell (p := ⟨w.heap.size + 1, 0, none⟩) (by simp) (.int .i64 f0)).setCell (p := ⟨w.heap.size + 1, 1, none⟩) (by simp) (.int .i64 f1)).setCell (p := ⟨w.heap.size + 1, 2, none⟩) (by simp) (.int .i64 f2)).setCell (p := ⟨w.heap.size + 1, 3, none⟩) (by simp) (.int .i64 f3)).setCell (p := ⟨w.heap.size + 1, 4, none⟩) (by simp) (.int .i64 f4)).setCell (p := ⟨w.heap.size + 1, 5, none⟩) (by simp) (.int .i64 f5)).setCell (p := ⟨w.heap.size + 1, 6, none⟩) (by simp) (.string f6)).setCell (p := ⟨w.heap.size + 1, 7, none⟩) (by simp) (.string f7)).setCell (p := ⟨w.heap.size + 1, 8, none⟩) (by simp) (.int .i64 f8)).setCell (p := ⟨w.heap.size + 1, 9, none⟩) (by simp) (.int .i64 f9)).setCell (p := ⟨w.heap.size + 1, 10, none⟩) (by simp) (.string f10))
  clear X1a Y1a A1a X5 Y5 Z6 B1a
  go_wp2_with fail
  refine bodyPost_ret (v := .agg #[.int .i64 f0, .int .i64 f1, .int .i64 f2, .int .i64 f3, .int .i64 f4, .int .i64 f5, .string f6, .string f7, .int .i64 f8, .int .i64 f9, .string f10]) (by simp [results, Try.results12, go_sem, z60, z61, z62, z63, z64, z65, z66, z67, z68, z69, z610]) rfl ⟨rfl, unhide B6⟩
def zeroCr : Cr := ⟨0, 0, 0, 0, 0, 0, ⟨#[]⟩, ⟨#[]⟩, 0, 0, ⟨#[]⟩⟩
def fillCr (l : List Cr) (k : Nat) : List Cr := (List.range l.length).map fun j => if j < k then l.getD j default else zeroCr
theorem fillCr_len (l : List Cr) (k : Nat) : (fillCr l k).length = l.length := by simp [fillCr]
theorem fillCr_all (l : List Cr) : fillCr l l.length = l := by
  apply List.ext_getElem?
  intro j
  by_cases hj : j < l.length
  · simp [fillCr, hj, List.getD_eq_getElem?_getD]
  · simp [fillCr, hj]
theorem fillCr_set (l : List Cr) (k : Nat) (hk : k < l.length) : (fillCr l k).set k (l.getD k default) = fillCr l (k + 1) := by
  apply List.ext_getElem?
  intro j
  rw [List.getElem?_set]
  simp only [fillCr_len]
  by_cases e : k = j
  · subst e
    rw [if_pos rfl, if_pos hk]
    simp [fillCr, hk]
  · rw [if_neg e]
    by_cases hj : j < l.length
    · by_cases h1 : j < k
      · simp [fillCr, hj, h1, show j < k + 1 by omega]
      · simp [fillCr, hj, h1, show ¬ j < k + 1 by omega]
    · simp [fillCr, hj]
theorem madeCr_at (x0 x1 x2 x3 x4 x5 x6 x7 x8 x9 x10 : Value) (n j : Nat) (hj : j < n) : (madeCells #[x0, x1, x2, x3, x4, x5, x6, x7, x8, x9, x10] n).toList[j]? = some (if j % 11 = 0 then x0 else if j % 11 = 1 then x1 else if j % 11 = 2 then x2 else if j % 11 = 3 then x3 else if j % 11 = 4 then x4 else if j % 11 = 5 then x5 else if j % 11 = 6 then x6 else if j % 11 = 7 then x7 else if j % 11 = 8 then x8 else if j % 11 = 9 then x9 else x10) := by
  have h3 : (#[x0, x1, x2, x3, x4, x5, x6, x7, x8, x9, x10] : Array Value).size = 11 := rfl
  unfold madeCells
  rw [h3, Array.getElem?_toList, Array.getElem?_map]
  have hr : (Array.range n)[j]? = some j := by simp [hj]
  rw [hr, Option.map_some]
  rcases (show j % 11 = 0 ∨ j % 11 = 1 ∨ j % 11 = 2 ∨ j % 11 = 3 ∨ j % 11 = 4 ∨ j % 11 = 5 ∨ j % 11 = 6 ∨ j % 11 = 7 ∨ j % 11 = 8 ∨ j % 11 = 9 ∨ j % 11 = 10 by omega) with e | e | e | e | e | e | e | e | e | e | e
  · rw [e]; rfl
  · rw [e]; rfl
  · rw [e]; rfl
  · rw [e]; rfl
  · rw [e]; rfl
  · rw [e]; rfl
  · rw [e]; rfl
  · rw [e]; rfl
  · rw [e]; rfl
  · rw [e]; rfl
  · rw [e]; rfl
theorem madeCr (l : List Cr) : (madeCells (Value.agg #[.int .i64 0, .int .i64 0, .int .i64 0, .int .i64 0, .int .i64 0, .int .i64 0, .string ⟨#[]⟩, .string ⟨#[]⟩, .int .i64 0, .int .i64 0, .string ⟨#[]⟩]).cells (l.length * 11)).toList = crsC (fillCr l 0) := by
  have hcs : (Value.agg #[.int .i64 0, .int .i64 0, .int .i64 0, .int .i64 0, .int .i64 0, .int .i64 0, .string ⟨#[]⟩, .string ⟨#[]⟩, .int .i64 0, .int .i64 0, .string ⟨#[]⟩]).cells = #[Value.int .i64 0, Value.int .i64 0, Value.int .i64 0, Value.int .i64 0, Value.int .i64 0, Value.int .i64 0, Value.string ⟨#[]⟩, Value.string ⟨#[]⟩, Value.int .i64 0, Value.int .i64 0, Value.string ⟨#[]⟩] := rfl
  rw [hcs]
  apply List.ext_getElem?
  intro j
  by_cases hj : j < l.length * 11
  · have hq : j / 11 < (fillCr l 0).length := by rw [fillCr_len]; omega
    obtain ⟨g0, g1, g2, g3, g4, g5, g6, g7, g8, g9, g10⟩ := crsC_get (fillCr l 0) (j / 11) hq
    have hz : (fillCr l 0).getD (j / 11) default = zeroCr := by
      rw [fillCr_len] at hq
      rw [List.getD_eq_getElem?_getD]
      simp [fillCr, hq]
    rw [hz] at g0 g1 g2 g3 g4 g5 g6 g7 g8 g9 g10
    rw [madeCr_at _ _ _ _ _ _ _ _ _ _ _ _ _ hj]
    rcases (show j % 11 = 0 ∨ j % 11 = 1 ∨ j % 11 = 2 ∨ j % 11 = 3 ∨ j % 11 = 4 ∨ j % 11 = 5 ∨ j % 11 = 6 ∨ j % 11 = 7 ∨ j % 11 = 8 ∨ j % 11 = 9 ∨ j % 11 = 10 by omega) with e | e | e | e | e | e | e | e | e | e | e
    · rw [show j / 11 * 11 = j by omega] at g0; rw [g0, e]; rfl
    · rw [show j / 11 * 11 + 1 = j by omega] at g1; rw [g1, e]; rfl
    · rw [show j / 11 * 11 + 2 = j by omega] at g2; rw [g2, e]; rfl
    · rw [show j / 11 * 11 + 3 = j by omega] at g3; rw [g3, e]; rfl
    · rw [show j / 11 * 11 + 4 = j by omega] at g4; rw [g4, e]; rfl
    · rw [show j / 11 * 11 + 5 = j by omega] at g5; rw [g5, e]; rfl
    · rw [show j / 11 * 11 + 6 = j by omega] at g6; rw [g6, e]; rfl
    · rw [show j / 11 * 11 + 7 = j by omega] at g7; rw [g7, e]; rfl
    · rw [show j / 11 * 11 + 8 = j by omega] at g8; rw [g8, e]; rfl
    · rw [show j / 11 * 11 + 9 = j by omega] at g9; rw [g9, e]; rfl
    · rw [show j / 11 * 11 + 10 = j by omega] at g10; rw [g10, e]; rfl
  · have e1 : (madeCells #[Value.int .i64 0, Value.int .i64 0, Value.int .i64 0, Value.int .i64 0, Value.int .i64 0, Value.int .i64 0, Value.string ⟨#[]⟩, Value.string ⟨#[]⟩, Value.int .i64 0, Value.int .i64 0, Value.string ⟨#[]⟩] (l.length * 11)).toList[j]? = none := List.getElem?_eq_none (by rw [Array.length_toList, size_madeCells]; omega)
    have e2 : (crsC (fillCr l 0))[j]? = none := List.getElem?_eq_none (by rw [crsC_len, fillCr_len]; omega)
    rw [e1, e2]
set_option maxRecDepth 100000 in
set_option maxHeartbeats 1000000 in
theorem toCallRecordS_any (v : Value) (l : List Cr) (w : World) (h : Crs w v l) (hs : l.length ≤ 1048576) :
    Calls Try.prog 6 #[v] w fun e w' => e = .returned (.slice (some ⟨w.heap.size, 0, none⟩) l.length l.length) ∧ OwnCr w.heap.size w' (.slice (some ⟨w.heap.size, 0, none⟩) l.length l.length) l ∧ w.heap.size < w'.heap.size ∧ Below w.heap.size w w' := by
  obtain ⟨i0, hi, hz0, hz1, hz2⟩ := info_parts infoCr
  obtain ⟨a, cap, rfl, hn, hm, hc⟩ := h
  have HC := hide hc
  clear hc hm hn
  go_enter Try.func6, Try.ntmps6
  go_wp2_with (at_make; refine wpList_make_full _ rfl _ _ 26 rfl w.heap.size 42 i0 _ 11 Try.underlying26 hi hz0 hz1 .i64 .i64 _ _ l.length rfl rfl rfl rfl (by rw [hz2]; omega) (by unfold maxLen; omega) (Nat.le_refl _) ?_; intro w1 hown1 hg1)
  rw [madeCr] at hown1
  have HZ := hide (And.intro hown1 ((Below.refl w.heap.size w).grown hg1 (Nat.le_refl _) (fun k h => by cases h)))
  clear hown1 hg1
  go_loopw [4] (fun i wr => ∃ k : Nat, k ≤ l.length ∧ i = .int .i64 k ∧ wr.ownsRow w.heap.size 42 11 (.slice (some ⟨w.heap.size, 0, none⟩) l.length l.length) l.length (crsC (fillCr l k)) ∧ Below w.heap.size w wr) (fun i _ => l.length - (intOf i).toNat)
  case atStart => exact ⟨0, Nat.zero_le _, rfl, (unhide HZ).1, (unhide HZ).2⟩
  case round =>
    obtain ⟨k, hk, rfl, hL, hbel⟩ := hrel
    by_cases hlt : k < l.length
    · obtain ⟨b, off, rfl, hbl, hsrc⟩ : ∃ b off, a = some ⟨b, off, none⟩ ∧ b < w.heap.size ∧ ∀ i, i < l.length → w.cell? ⟨b, off + i * 11, none⟩ = some (.int .i64 (l.getD i default).cl) ∧ w.cell? ⟨b, off + i * 11 + 1, none⟩ = some (.int .i64 (l.getD i default).bg) ∧ w.cell? ⟨b, off + i * 11 + 2, none⟩ = some (.int .i64 (l.getD i default).en) ∧ w.cell? ⟨b, off + i * 11 + 3, none⟩ = some (.int .i64 (l.getD i default).kd) ∧ w.cell? ⟨b, off + i * 11 + 4, none⟩ = some (.int .i64 (l.getD i default).ss) ∧ w.cell? ⟨b, off + i * 11 + 5, none⟩ = some (.int .i64 (l.getD i default).sq) ∧ w.cell? ⟨b, off + i * 11 + 6, none⟩ = some (.string (l.getD i default).ky) ∧ w.cell? ⟨b, off + i * 11 + 7, none⟩ = some (.string (l.getD i default).va) ∧ w.cell? ⟨b, off + i * 11 + 8, none⟩ = some (.int .i64 (l.getD i default).rk) ∧ w.cell? ⟨b, off + i * 11 + 9, none⟩ = some (.int .i64 (l.getD i default).rp) ∧ w.cell? ⟨b, off + i * 11 + 10, none⟩ = some (.string (l.getD i default).rv) := by
        rcases unhide HC with h0 | h1
        · omega
        · exact h1
      obtain ⟨s0, s1, s2, s3, s4, s5, s6, s7, s8, s9, s10⟩ := hsrc k hlt
      have c0 := (hbel.cell (p := ⟨b, off + k * 11, none⟩) hbl).trans s0
      have c1 := (hbel.cell (p := ⟨b, off + k * 11 + 1, none⟩) hbl).trans s1
      have c2 := (hbel.cell (p := ⟨b, off + k * 11 + 2, none⟩) hbl).trans s2
      have c3 := (hbel.cell (p := ⟨b, off + k * 11 + 3, none⟩) hbl).trans s3
      have c4 := (hbel.cell (p := ⟨b, off + k * 11 + 4, none⟩) hbl).trans s4
      have c5 := (hbel.cell (p := ⟨b, off + k * 11 + 5, none⟩) hbl).trans s5
      have c6 := (hbel.cell (p := ⟨b, off + k * 11 + 6, none⟩) hbl).trans s6
      have c7 := (hbel.cell (p := ⟨b, off + k * 11 + 7, none⟩) hbl).trans s7
      have c8 := (hbel.cell (p := ⟨b, off + k * 11 + 8, none⟩) hbl).trans s8
      have c9 := (hbel.cell (p := ⟨b, off + k * 11 + 9, none⟩) hbl).trans s9
      have c10 := (hbel.cell (p := ⟨b, off + k * 11 + 10, none⟩) hbl).trans s10
      have hk0 : (0 : Int) ≤ (k : Int) := by omega
      have hk1 : (k : Int) < (l.length : Int) := by omega
      have hbs := hbel.size
      have HL := hide hL
      have HB := hide hbel
      clear hsrc s0 s1 s2 s3 s4 s5 s6 s7 s8 s9 s10 hL hbel
      obtain ⟨f, hf⟩ : ∃ f, f = l.getD k default := ⟨_, rfl⟩
      rw [← hf] at c0 c1 c2 c3 c4 c5 c6 c7 c8 c9 c10
      have HFe := hide hf
      clear hf
      have HT := hide (fun wx => toCallRecord_any f wx)
      obtain ⟨f0, f1, f2, f3, f4, f5, f6, f7, f8, f9, f10⟩ := f
      dsimp only at c0 c1 c2 c3 c4 c5 c6 c7 c8 c9 c10 HT
      go_wp2_with fail
      refine (unhide HT wr).mono ?_
      rintro e w2 ⟨rfl, hb2⟩
      have hO : w2.ownsRow w.heap.size 42 11 (.slice (some ⟨w.heap.size, 0, none⟩) l.length l.length) l.length (crsC (fillCr l k)) := own_kept (T := fun _ => False) (unhide HL) (Touch.ofBelow hb2) (fun _ _ h => h)
      have hB2 := (unhide HB).trans (hb2.mono hbs)
      obtain ⟨d0, d1, d2, d3, d4, d5, d6, d7, d8, d9, d10⟩ := OwnCr.cells hO k (by rw [fillCr_len]; exact hlt) (fillCr_len l k).symm
      have g0 := hO.frozenAt (k * 11)
      have g1 := hO.frozenAt (k * 11 + 1)
      have g2 := hO.frozenAt (k * 11 + 2)
      have g3 := hO.frozenAt (k * 11 + 3)
      have g4 := hO.frozenAt (k * 11 + 4)
      have g5 := hO.frozenAt (k * 11 + 5)
      have g6 := hO.frozenAt (k * 11 + 6)
      have g7 := hO.frozenAt (k * 11 + 7)
      have g8 := hO.frozenAt (k * 11 + 8)
      have g9 := hO.frozenAt (k * 11 + 9)
      have g10 := hO.frozenAt (k * 11 + 10)
      have q0 := (hO.stored (k * 11) (.int .i64 f0)).1
      have q1 := (q0.stored (k * 11 + 1) (.int .i64 f1)).1
      have q2 := (q1.stored (k * 11 + 2) (.int .i64 f2)).1
      have q3 := (q2.stored (k * 11 + 3) (.int .i64 f3)).1
      have q4 := (q3.stored (k * 11 + 4) (.int .i64 f4)).1
      have q5 := (q4.stored (k * 11 + 5) (.int .i64 f5)).1
      have q6 := (q5.stored (k * 11 + 6) (.string f6)).1
      have q7 := (q6.stored (k * 11 + 7) (.string f7)).1
      have q8 := (q7.stored (k * 11 + 8) (.int .i64 f8)).1
      have q9 := (q8.stored (k * 11 + 9) (.int .i64 f9)).1
      have q10 := (q9.stored (k * 11 + 10) (.string f10)).1
      have hset : ((((((((((((crsC (fillCr l k)).set (k * 11) (.int .i64 f0)).set (k * 11 + 1) (.int .i64 f1)).set (k * 11 + 2) (.int .i64 f2)).set (k * 11 + 3) (.int .i64 f3)).set (k * 11 + 4) (.int .i64 f4)).set (k * 11 + 5) (.int .i64 f5)).set (k * 11 + 6) (.string f6)).set (k * 11 + 7) (.string f7)).set (k * 11 + 8) (.int .i64 f8)).set (k * 11 + 9) (.int .i64 f9)).set (k * 11 + 10) (.string f10)) = crsC (fillCr l (k + 1)) := by
        have h1 := crsC_set (fillCr l k) k ⟨f0, f1, f2, f3, f4, f5, f6, f7, f8, f9, f10⟩ (by rw [fillCr_len]; exact hlt)
        dsimp only at h1
        rw [h1, ← fillCr_set l k hlt, ← unhide HFe]
      rw [hset] at q10
      have R := hide (And.intro q10 (((((((((((hB2.setCell (p := ⟨w.heap.size, k * 11, none⟩) (Nat.le_refl _) (.int .i64 f0)).setCell (p := ⟨w.heap.size, k * 11 + 1, none⟩) (Nat.le_refl _) (.int .i64 f1)).setCell (p := ⟨w.heap.size, k * 11 + 2, none⟩) (Nat.le_refl _) (.int .i64 f2)).setCell (p := ⟨w.heap.size, k * 11 + 3, none⟩) (Nat.le_refl _) (.int .i64 f3)).setCell (p := ⟨w.heap.size, k * 11 + 4, none⟩) (Nat.le_refl _) (.int .i64 f4)).setCell (p := ⟨w.heap.size, k * 11 + 5, none⟩) (Nat.le_refl _) (.int .i64 f5)).setCell (p := ⟨w.heap.size, k * 11 + 6, none⟩) (Nat.le_refl _) (.string f6)).setCell (p := ⟨w.heap.size, k * 11 + 7, none⟩) (Nat.le_refl _) (.string f7)).setCell (p := ⟨w.heap.size, k * 11 + 8, none⟩) (Nat.le_refl _) (.int .i64 f8)).setCell (p := ⟨w.heap.size, k * 11 + 9, none⟩) (Nat.le_refl _) (.int .i64 f9)).setCell (p := ⟨w.heap.size, k * 11 + 10, none⟩) (Nat.le_refl _) (.string f10)))
      clear q0 q1 q2 q3 q4 q5 q6 q7 q8 q9 q10 hset hO hB2 hb2 HT HL HB
      go_wp2_with fail
      refine ⟨⟨k + 1, by omega, by go_num, (unhide R).1, (unhide R).2⟩, ?_⟩
      simp [intOf]; omega
    · obtain rfl : k = l.length := by omega
      rw [fillCr_all] at hL
      have hlt9 := (hL.lt w.heap.size rfl).2
      have R := hide (And.intro hL hbel)
      clear hL hbel
      go_wp2_with fail
      go_ret
      exact ⟨rfl, (unhide R).1, hlt9, (unhide R).2⟩
set_option maxRecDepth 100000 in
/-- calls that came in, opened. -/
theorem open_calls {H : Type} {enc : TypeId × Value → H} {W : World} {base b0 : Nat} {r : Reach} {sp : Nat → Bool} {held : Bool} {v : Value} {d : DataW H} {p : List MemPlace}
    (hv : Value.okWide Try.prog W r b0 22 v) (ht : DataW.Trod enc Try.prog W base sp held 22 v d p) :
    ∃ l : List Cr, Crs W v l ∧ ∀ i, i < l.length → (Lit.int .i64 (l.getD i default).cl).wf = true ∧ (Lit.int .i64 (l.getD i default).bg).wf = true ∧ (Lit.int .i64 (l.getD i default).en).wf = true ∧ (Lit.int .i64 (l.getD i default).kd).wf = true ∧ (Lit.int .i64 (l.getD i default).ss).wf = true ∧ (Lit.int .i64 (l.getD i default).sq).wf = true ∧ (l.getD i default).ky.size ≤ maxLen ∧ (l.getD i default).va.size ≤ maxLen ∧ (Lit.int .i64 (l.getD i default).rk).wf = true ∧ (Lit.int .i64 (l.getD i default).rp).wf = true ∧ (l.getD i default).rv.size ≤ maxLen := by
  obtain ⟨fuel, h0⟩ := ht
  obtain ⟨a0, len0, cap0, rfl⟩ := okWide_slice Try.underlying22 hv
  have h : DataW.trod enc Try.prog W base sp held fuel 22 [.slice a0 len0 cap0] = some (d, p) := h0
  have i3 : Try.prog.cellsOf 3 = 1 := by kernel_rfl
  have i4 : Try.prog.cellsOf 4 = 1 := by kernel_rfl
  have i9 : Try.prog.cellsOf 9 = 1 := by kernel_rfl
  have iF : Try.prog.cellsOf 36 = 11 := by kernel_rfl
  have iN0 : Try.prog.cellsOf 32 = 5 := by kernel_rfl
  have iN1 : Try.prog.cellsOf 34 = 3 := by kernel_rfl
  rcases open_slice Try.underlying22 h with ⟨hc, _⟩ | ⟨a, len, cap, m, n, D, Pl, hc, hb, hl, hm, hmm, _, hx⟩
  · simp only [List.cons.injEq, and_true, Value.slice.injEq] at hc
    obtain ⟨rfl, rfl, rfl⟩ := hc
    exact ⟨[], ⟨none, 0, rfl, Nat.le_refl _, by unfold maxLen; omega, .inl rfl⟩, fun i hi => by simp at hi⟩
  · simp only [List.cons.injEq, and_true, Value.slice.injEq] at hc
    obtain ⟨rfl, rfl, rfl⟩ := hc
    have hlm : len0 ≤ m := by rw [hmm]; split <;> omega
    rw [iF] at hx
    have each : ∀ i, i < len0 → ∃ f : Cr, W.cell? (a.add (i * 11)) = some (.int .i64 f.cl) ∧ W.cell? (a.add (i * 11 + 1)) = some (.int .i64 f.bg) ∧ W.cell? (a.add (i * 11 + 2)) = some (.int .i64 f.en) ∧ W.cell? (a.add (i * 11 + 3)) = some (.int .i64 f.kd) ∧ W.cell? (a.add (i * 11 + 4)) = some (.int .i64 f.ss) ∧ W.cell? (a.add (i * 11 + 5)) = some (.int .i64 f.sq) ∧ W.cell? (a.add (i * 11 + 6)) = some (.string f.ky) ∧ W.cell? (a.add (i * 11 + 7)) = some (.string f.va) ∧ W.cell? (a.add (i * 11 + 8)) = some (.int .i64 f.rk) ∧ W.cell? (a.add (i * 11 + 9)) = some (.int .i64 f.rp) ∧ W.cell? (a.add (i * 11 + 10)) = some (.string f.rv) ∧ (Lit.int .i64 f.cl).wf = true ∧ (Lit.int .i64 f.bg).wf = true ∧ (Lit.int .i64 f.en).wf = true ∧ (Lit.int .i64 f.kd).wf = true ∧ (Lit.int .i64 f.ss).wf = true ∧ (Lit.int .i64 f.sq).wf = true ∧ f.ky.size ≤ maxLen ∧ f.va.size ≤ maxLen ∧ (Lit.int .i64 f.rk).wf = true ∧ (Lit.int .i64 f.rp).wf = true ∧ f.rv.size ≤ maxLen := by
      intro i hi
      obtain ⟨cs', h1, h2⟩ := hx i (by omega)
      obtain ⟨_, hlen, hcell⟩ := World.cells?_some h1
      obtain ⟨xs, k, hk, hxy, _, hxl, hf⟩ := DataW.trod_struct Try.underlying36 h2
      match cs', hlen with
      | [v0, v1, v2, v3, v4, v5, v6, v7, v8, v9, v10], _ =>
        obtain ⟨y0, e0⟩ := get_some hxl (show 0 < 5 by omega)
        obtain ⟨y1, e1⟩ := get_some hxl (show 1 < 5 by omega)
        obtain ⟨y2, e2⟩ := get_some hxl (show 2 < 5 by omega)
        obtain ⟨y3, e3⟩ := get_some hxl (show 3 < 5 by omega)
        obtain ⟨y4, e4⟩ := get_some hxl (show 4 < 5 by omega)
        have g0 : DataW.trod enc Try.prog W base sp held k 3 [v0] = some y0 := by simpa [Value.cells, i3, i4, i9] using (hf 0 _ rfl).trans e0
        have g1 : DataW.trod enc Try.prog W base sp held k 3 [v1] = some y1 := by simpa [Value.cells, i3, i4, i9] using (hf 1 _ rfl).trans e1
        have g2 : DataW.trod enc Try.prog W base sp held k 3 [v2] = some y2 := by simpa [Value.cells, i3, i4, i9] using (hf 2 _ rfl).trans e2
        have gn3 : DataW.trod enc Try.prog W base sp held k 32 [v3, v4, v5, v6, v7] = some y3 := by simpa [Value.cells, i3, i4, i9, iN0, iN1] using (hf 3 _ rfl).trans e3
        obtain ⟨xs3, k3, hk3, hxy3, _, hxl3, hf3⟩ := DataW.trod_struct Try.underlying32 gn3
        obtain ⟨z3, ez3⟩ := get_some hxl3 (show 0 < 5 by omega)
        have g3 : DataW.trod enc Try.prog W base sp held k3 3 [v3] = some z3 := by simpa [Value.cells, i3, i4, i9] using (hf3 0 _ rfl).trans ez3
        obtain ⟨z4, ez4⟩ := get_some hxl3 (show 1 < 5 by omega)
        have g4 : DataW.trod enc Try.prog W base sp held k3 3 [v4] = some z4 := by simpa [Value.cells, i3, i4, i9] using (hf3 1 _ rfl).trans ez4
        obtain ⟨z5, ez5⟩ := get_some hxl3 (show 2 < 5 by omega)
        have g5 : DataW.trod enc Try.prog W base sp held k3 3 [v5] = some z5 := by simpa [Value.cells, i3, i4, i9] using (hf3 2 _ rfl).trans ez5
        obtain ⟨z6, ez6⟩ := get_some hxl3 (show 3 < 5 by omega)
        have g6 : DataW.trod enc Try.prog W base sp held k3 9 [v6] = some z6 := by simpa [Value.cells, i3, i4, i9] using (hf3 3 _ rfl).trans ez6
        obtain ⟨z7, ez7⟩ := get_some hxl3 (show 4 < 5 by omega)
        have g7 : DataW.trod enc Try.prog W base sp held k3 9 [v7] = some z7 := by simpa [Value.cells, i3, i4, i9] using (hf3 4 _ rfl).trans ez7
        have gn4 : DataW.trod enc Try.prog W base sp held k 34 [v8, v9, v10] = some y4 := by simpa [Value.cells, i3, i4, i9, iN0, iN1] using (hf 4 _ rfl).trans e4
        obtain ⟨xs4, k4, hk4, hxy4, _, hxl4, hf4⟩ := DataW.trod_struct Try.underlying34 gn4
        obtain ⟨z8, ez8⟩ := get_some hxl4 (show 0 < 3 by omega)
        have g8 : DataW.trod enc Try.prog W base sp held k4 3 [v8] = some z8 := by simpa [Value.cells, i3, i4, i9] using (hf4 0 _ rfl).trans ez8
        obtain ⟨z9, ez9⟩ := get_some hxl4 (show 1 < 3 by omega)
        have g9 : DataW.trod enc Try.prog W base sp held k4 3 [v9] = some z9 := by simpa [Value.cells, i3, i4, i9] using (hf4 1 _ rfl).trans ez9
        obtain ⟨z10, ez10⟩ := get_some hxl4 (show 2 < 3 by omega)
        have g10 : DataW.trod enc Try.prog W base sp held k4 9 [v10] = some z10 := by simpa [Value.cells, i3, i4, i9] using (hf4 2 _ rfl).trans ez10
        obtain ⟨a0, f0, _, q0⟩ := DataW.trod_int Try.underlying3 g0
        obtain ⟨a1, f1, _, q1⟩ := DataW.trod_int Try.underlying3 g1
        obtain ⟨a2, f2, _, q2⟩ := DataW.trod_int Try.underlying3 g2
        obtain ⟨a3, f3, _, q3⟩ := DataW.trod_int Try.underlying3 g3
        obtain ⟨a4, f4, _, q4⟩ := DataW.trod_int Try.underlying3 g4
        obtain ⟨a5, f5, _, q5⟩ := DataW.trod_int Try.underlying3 g5
        obtain ⟨a6, f6, _, q6⟩ := DataW.trod_string Try.underlying9 g6
        obtain ⟨a7, f7, _, q7⟩ := DataW.trod_string Try.underlying9 g7
        obtain ⟨a8, f8, _, q8⟩ := DataW.trod_int Try.underlying3 g8
        obtain ⟨a9, f9, _, q9⟩ := DataW.trod_int Try.underlying3 g9
        obtain ⟨a10, f10, _, q10⟩ := DataW.trod_string Try.underlying9 g10
        simp only [List.cons.injEq, and_true] at f0 f1 f2 f3 f4 f5 f6 f7 f8 f9 f10
        subst f0 f1 f2 f3 f4 f5 f6 f7 f8 f9 f10
        have c0 := hcell 0 (by omega)
        have c1 := hcell 1 (by omega)
        have c2 := hcell 2 (by omega)
        have c3 := hcell 3 (by omega)
        have c4 := hcell 4 (by omega)
        have c5 := hcell 5 (by omega)
        have c6 := hcell 6 (by omega)
        have c7 := hcell 7 (by omega)
        have c8 := hcell 8 (by omega)
        have c9 := hcell 9 (by omega)
        have c10 := hcell 10 (by omega)
        rw [add_add] at c0 c1 c2 c3 c4 c5 c6 c7 c8 c9 c10
        exact ⟨⟨a0, a1, a2, a3, a4, a5, a6, a7, a8, a9, a10⟩, by simpa using c0, by simpa using c1, by simpa using c2, by simpa using c3, by simpa using c4, by simpa using c5, by simpa using c6, by simpa using c7, by simpa using c8, by simpa using c9, by simpa using c10, q0, q1, q2, q3, q4, q5, q6, q7, q8, q9, q10⟩
    obtain ⟨F, hF⟩ := choose_lt each
    have hlen : ((List.range len0).map F).length = len0 := by simp
    have hget : ∀ i, i < len0 → ((List.range len0).map F).getD i default = F i := fun i hi => by simp [List.getD_eq_getElem?_getD, hi]
    refine ⟨(List.range len0).map F, ⟨some a, cap0, by rw [hlen], by rw [hlen]; exact hl, hm, ?_⟩, fun i hi => ?_⟩
    · by_cases h0 : len0 = 0
      · exact .inl (by rw [hlen]; exact h0)
      · obtain ⟨b, off, spot⟩ := a
        have hc := (hF 0 (by omega)).1
        have hspot : spot = none := by simpa [Addr.add] using World.cell?_spot hc
        subst hspot
        have hblk := World.block_lt_of_cell? W _ hc
        have e0 : ∀ i, (⟨b, off, none⟩ : Addr).add i = ⟨b, off + i, none⟩ := fun i => by unfold Addr.add; split <;> simp_all
        rw [e0] at hblk
        refine .inr ⟨b, off, rfl, hblk, fun i hi => ?_⟩
        rw [hlen] at hi
        rw [hget i hi]
        have h9 := hF i hi
        simp only [e0] at h9
        obtain ⟨u0, u1, u2, u3, u4, u5, u6, u7, u8, u9, u10, _⟩ := h9
        exact ⟨by first | exact u0 | simpa [Nat.add_assoc] using u0, by first | exact u1 | simpa [Nat.add_assoc] using u1, by first | exact u2 | simpa [Nat.add_assoc] using u2, by first | exact u3 | simpa [Nat.add_assoc] using u3, by first | exact u4 | simpa [Nat.add_assoc] using u4, by first | exact u5 | simpa [Nat.add_assoc] using u5, by first | exact u6 | simpa [Nat.add_assoc] using u6, by first | exact u7 | simpa [Nat.add_assoc] using u7, by first | exact u8 | simpa [Nat.add_assoc] using u8, by first | exact u9 | simpa [Nat.add_assoc] using u9, by first | exact u10 | simpa [Nat.add_assoc] using u10⟩
    · rw [hlen] at hi
      rw [hget i hi]
      exact (hF i hi).2.2.2.2.2.2.2.2.2.2.2
set_option maxRecDepth 100000 in
set_option maxHeartbeats 1000000 in
theorem eqCallRecord_any (f : Cr) (w : World) :
    Calls Try.prog 15 #[.agg #[.int .i64 f.cl, .int .i64 f.bg, .int .i64 f.en, .int .i64 f.kd, .int .i64 f.ss, .int .i64 f.sq, .string f.ky, .string f.va, .int .i64 f.rk, .int .i64 f.rp, .string f.rv], .agg #[.int .i64 f.cl, .int .i64 f.bg, .int .i64 f.en, .int .i64 f.kd, .int .i64 f.ss, .int .i64 f.sq, .string f.ky, .string f.va, .int .i64 f.rk, .int .i64 f.rp, .string f.rv]] w fun e w' => e = .returned (.bool true) ∧ Below w.heap.size w w' := by
  obtain ⟨f0, f1, f2, f3, f4, f5, f6, f7, f8, f9, f10⟩ := f
  dsimp only
  have B0 := hide (((Below.refl w.heap.size w).alloc (Nat.le_refl _) (.cells #[.int .i64 f0, .int .i64 f1, .int .i64 f2, .int .i64 f3, .int .i64 f4, .int .i64 f5, .string f6, .string f7, .int .i64 f8, .int .i64 f9, .string f10] 42)).alloc (by simp) (.cells #[.int .i64 f0, .int .i64 f1, .int .i64 f2, .int .i64 f3, .int .i64 f4, .int .i64 f5, .string f6, .string f7, .int .i64 f8, .int .i64 f9, .string f10] 42))
  have A0 := hide ((Blk.new w #[.int .i64 f0, .int .i64 f1, .int .i64 f2, .int .i64 f3, .int .i64 f4, .int .i64 f5, .string f6, .string f7, .int .i64 f8, .int .i64 f9, .string f10] 42 w.heap.size rfl).alloc (.cells #[.int .i64 f0, .int .i64 f1, .int .i64 f2, .int .i64 f3, .int .i64 f4, .int .i64 f5, .string f6, .string f7, .int .i64 f8, .int .i64 f9, .string f10] 42))
  have C0 := hide (Blk.new (w.alloc (.cells #[.int .i64 f0, .int .i64 f1, .int .i64 f2, .int .i64 f3, .int .i64 f4, .int .i64 f5, .string f6, .string f7, .int .i64 f8, .int .i64 f9, .string f10] 42)) #[.int .i64 f0, .int .i64 f1, .int .i64 f2, .int .i64 f3, .int .i64 f4, .int .i64 f5, .string f6, .string f7, .int .i64 f8, .int .i64 f9, .string f10] 42 (w.heap.size + 1) (by simp))
  have HN0 := hide (fun wx => eqCommand_one f3 f4 f5 f6 f7 wx)
  have HN1 := hide (fun wx => eqReply_one f8 f9 f10 wx)
  go_enter Try.func15, Try.ntmps15
  go_wp2_with fail
  generalize (w.alloc (.cells #[.int .i64 f0, .int .i64 f1, .int .i64 f2, .int .i64 f3, .int .i64 f4, .int .i64 f5, .string f6, .string f7, .int .i64 f8, .int .i64 f9, .string f10] 42)).alloc (.cells #[.int .i64 f0, .int .i64 f1, .int .i64 f2, .int .i64 f3, .int .i64 f4, .int .i64 f5, .string f6, .string f7, .int .i64 f8, .int .i64 f9, .string f10] 42) = w0 at *
  refine (unhide HN0 w0).mono ?_
  rintro e w1 ⟨rfl, hb1⟩
  have B1 := hide ((unhide B0).trans (hb1.mono (unhide B0).size))
  have A1 := hide ((unhide A0).below hb1)
  have C1 := hide ((unhide C0).below hb1)
  clear hb1 B0 A0 C0 HN0
  have a0_0 := (unhide A1).cell 0 rfl
  have b0_0 := (unhide C1).cell 0 rfl
  have a0_1 := (unhide A1).cell 1 rfl
  have b0_1 := (unhide C1).cell 1 rfl
  have a0_2 := (unhide A1).cell 2 rfl
  have b0_2 := (unhide C1).cell 2 rfl
  have a0_3 := (unhide A1).cell 3 rfl
  have b0_3 := (unhide C1).cell 3 rfl
  have a0_4 := (unhide A1).cell 4 rfl
  have b0_4 := (unhide C1).cell 4 rfl
  have a0_5 := (unhide A1).cell 5 rfl
  have b0_5 := (unhide C1).cell 5 rfl
  have a0_6 := (unhide A1).cell 6 rfl
  have b0_6 := (unhide C1).cell 6 rfl
  have a0_7 := (unhide A1).cell 7 rfl
  have b0_7 := (unhide C1).cell 7 rfl
  have a0_8 := (unhide A1).cell 8 rfl
  have b0_8 := (unhide C1).cell 8 rfl
  have a0_9 := (unhide A1).cell 9 rfl
  have b0_9 := (unhide C1).cell 9 rfl
  have a0_10 := (unhide A1).cell 10 rfl
  have b0_10 := (unhide C1).cell 10 rfl
  go_wp2_with fail
  refine (unhide HN1 w1).mono ?_
  rintro e w2 ⟨rfl, hb1⟩
  have B2 := hide ((unhide B1).trans (hb1.mono (unhide B1).size))
  have A2 := hide ((unhide A1).below hb1)
  have C2 := hide ((unhide C1).below hb1)
  clear hb1 B1 A1 C1 HN1
  have a1_0 := (unhide A2).cell 0 rfl
  have b1_0 := (unhide C2).cell 0 rfl
  have a1_1 := (unhide A2).cell 1 rfl
  have b1_1 := (unhide C2).cell 1 rfl
  have a1_2 := (unhide A2).cell 2 rfl
  have b1_2 := (unhide C2).cell 2 rfl
  have a1_3 := (unhide A2).cell 3 rfl
  have b1_3 := (unhide C2).cell 3 rfl
  have a1_4 := (unhide A2).cell 4 rfl
  have b1_4 := (unhide C2).cell 4 rfl
  have a1_5 := (unhide A2).cell 5 rfl
  have b1_5 := (unhide C2).cell 5 rfl
  have a1_6 := (unhide A2).cell 6 rfl
  have b1_6 := (unhide C2).cell 6 rfl
  have a1_7 := (unhide A2).cell 7 rfl
  have b1_7 := (unhide C2).cell 7 rfl
  have a1_8 := (unhide A2).cell 8 rfl
  have b1_8 := (unhide C2).cell 8 rfl
  have a1_9 := (unhide A2).cell 9 rfl
  have b1_9 := (unhide C2).cell 9 rfl
  have a1_10 := (unhide A2).cell 10 rfl
  have b1_10 := (unhide C2).cell 10 rfl
  go_wp2_with fail
  go_ret
  exact ⟨rfl, unhide B2⟩
set_option maxRecDepth 100000 in
set_option maxHeartbeats 2000000 in
theorem eqCallRecordS_any (v v2 : Value) (l : List Cr) (w : World) (h : Crs w v l) (h2 : Crs w v2 l) (hs : l.length ≤ 1048576) :
    Calls Try.prog 8 #[v, v2] w fun e w' => e = .returned (.bool true) ∧ Below w.heap.size w w' := by
  obtain ⟨a, cap, rfl, hn, hm, hc⟩ := h
  obtain ⟨a2, cap2, rfl, hn2, hm2, hc2⟩ := h2
  have HC := hide hc
  have HC2 := hide hc2
  clear hc hm hc2 hm2 hn hn2
  go_enter Try.func8, Try.ntmps8
  go_wp2_with fail
  go_loopw [5] (fun i wr => ∃ k : Nat, k ≤ l.length ∧ i = .int .i64 k ∧ Below w.heap.size w wr) (fun i _ => l.length - (intOf i).toNat)
  case atStart => exact ⟨0, Nat.zero_le _, rfl, Below.refl _ _⟩
  case round =>
    obtain ⟨k, hk, rfl, hb⟩ := hrel
    by_cases hlt : k < l.length
    · obtain ⟨b, off, rfl, hbl, hsrc⟩ : ∃ b off, a = some ⟨b, off, none⟩ ∧ b < w.heap.size ∧ ∀ i, i < l.length → w.cell? ⟨b, off + i * 11, none⟩ = some (.int .i64 (l.getD i default).cl) ∧ w.cell? ⟨b, off + i * 11 + 1, none⟩ = some (.int .i64 (l.getD i default).bg) ∧ w.cell? ⟨b, off + i * 11 + 2, none⟩ = some (.int .i64 (l.getD i default).en) ∧ w.cell? ⟨b, off + i * 11 + 3, none⟩ = some (.int .i64 (l.getD i default).kd) ∧ w.cell? ⟨b, off + i * 11 + 4, none⟩ = some (.int .i64 (l.getD i default).ss) ∧ w.cell? ⟨b, off + i * 11 + 5, none⟩ = some (.int .i64 (l.getD i default).sq) ∧ w.cell? ⟨b, off + i * 11 + 6, none⟩ = some (.string (l.getD i default).ky) ∧ w.cell? ⟨b, off + i * 11 + 7, none⟩ = some (.string (l.getD i default).va) ∧ w.cell? ⟨b, off + i * 11 + 8, none⟩ = some (.int .i64 (l.getD i default).rk) ∧ w.cell? ⟨b, off + i * 11 + 9, none⟩ = some (.int .i64 (l.getD i default).rp) ∧ w.cell? ⟨b, off + i * 11 + 10, none⟩ = some (.string (l.getD i default).rv) := by
        rcases unhide HC with h0 | h1
        · omega
        · exact h1
      obtain ⟨b2, off2, rfl, hbl2, hsrc2⟩ : ∃ b off, a2 = some ⟨b, off, none⟩ ∧ b < w.heap.size ∧ ∀ i, i < l.length → w.cell? ⟨b, off + i * 11, none⟩ = some (.int .i64 (l.getD i default).cl) ∧ w.cell? ⟨b, off + i * 11 + 1, none⟩ = some (.int .i64 (l.getD i default).bg) ∧ w.cell? ⟨b, off + i * 11 + 2, none⟩ = some (.int .i64 (l.getD i default).en) ∧ w.cell? ⟨b, off + i * 11 + 3, none⟩ = some (.int .i64 (l.getD i default).kd) ∧ w.cell? ⟨b, off + i * 11 + 4, none⟩ = some (.int .i64 (l.getD i default).ss) ∧ w.cell? ⟨b, off + i * 11 + 5, none⟩ = some (.int .i64 (l.getD i default).sq) ∧ w.cell? ⟨b, off + i * 11 + 6, none⟩ = some (.string (l.getD i default).ky) ∧ w.cell? ⟨b, off + i * 11 + 7, none⟩ = some (.string (l.getD i default).va) ∧ w.cell? ⟨b, off + i * 11 + 8, none⟩ = some (.int .i64 (l.getD i default).rk) ∧ w.cell? ⟨b, off + i * 11 + 9, none⟩ = some (.int .i64 (l.getD i default).rp) ∧ w.cell? ⟨b, off + i * 11 + 10, none⟩ = some (.string (l.getD i default).rv) := by
        rcases unhide HC2 with h0 | h1
        · omega
        · exact h1
      obtain ⟨s0, s1, s2, s3, s4, s5, s6, s7, s8, s9, s10⟩ := hsrc k hlt
      obtain ⟨t0, t1, t2, t3, t4, t5, t6, t7, t8, t9, t10⟩ := hsrc2 k hlt
      have c0 := (hb.cell (p := ⟨b, off + k * 11, none⟩) hbl).trans s0
      have d0 := (hb.cell (p := ⟨b2, off2 + k * 11, none⟩) hbl2).trans t0
      have c1 := (hb.cell (p := ⟨b, off + k * 11 + 1, none⟩) hbl).trans s1
      have d1 := (hb.cell (p := ⟨b2, off2 + k * 11 + 1, none⟩) hbl2).trans t1
      have c2 := (hb.cell (p := ⟨b, off + k * 11 + 2, none⟩) hbl).trans s2
      have d2 := (hb.cell (p := ⟨b2, off2 + k * 11 + 2, none⟩) hbl2).trans t2
      have c3 := (hb.cell (p := ⟨b, off + k * 11 + 3, none⟩) hbl).trans s3
      have d3 := (hb.cell (p := ⟨b2, off2 + k * 11 + 3, none⟩) hbl2).trans t3
      have c4 := (hb.cell (p := ⟨b, off + k * 11 + 4, none⟩) hbl).trans s4
      have d4 := (hb.cell (p := ⟨b2, off2 + k * 11 + 4, none⟩) hbl2).trans t4
      have c5 := (hb.cell (p := ⟨b, off + k * 11 + 5, none⟩) hbl).trans s5
      have d5 := (hb.cell (p := ⟨b2, off2 + k * 11 + 5, none⟩) hbl2).trans t5
      have c6 := (hb.cell (p := ⟨b, off + k * 11 + 6, none⟩) hbl).trans s6
      have d6 := (hb.cell (p := ⟨b2, off2 + k * 11 + 6, none⟩) hbl2).trans t6
      have c7 := (hb.cell (p := ⟨b, off + k * 11 + 7, none⟩) hbl).trans s7
      have d7 := (hb.cell (p := ⟨b2, off2 + k * 11 + 7, none⟩) hbl2).trans t7
      have c8 := (hb.cell (p := ⟨b, off + k * 11 + 8, none⟩) hbl).trans s8
      have d8 := (hb.cell (p := ⟨b2, off2 + k * 11 + 8, none⟩) hbl2).trans t8
      have c9 := (hb.cell (p := ⟨b, off + k * 11 + 9, none⟩) hbl).trans s9
      have d9 := (hb.cell (p := ⟨b2, off2 + k * 11 + 9, none⟩) hbl2).trans t9
      have c10 := (hb.cell (p := ⟨b, off + k * 11 + 10, none⟩) hbl).trans s10
      have d10 := (hb.cell (p := ⟨b2, off2 + k * 11 + 10, none⟩) hbl2).trans t10
      have hk0 : (0 : Int) ≤ (k : Int) := by omega
      have hk1 : (k : Int) < (l.length : Int) := by omega
      have hbs := hb.size
      have HB := hide hb
      clear hsrc hsrc2 s0 t0 s1 t1 s2 t2 s3 t3 s4 t4 s5 t5 s6 t6 s7 t7 s8 t8 s9 t9 s10 t10 hb
      generalize l.getD k default = f at *
      have HT := hide (fun wx => eqCallRecord_any f wx)
      obtain ⟨f0, f1, f2, f3, f4, f5, f6, f7, f8, f9, f10⟩ := f
      dsimp only at c0 d0 c1 d1 c2 d2 c3 d3 c4 d4 c5 d5 c6 d6 c7 d7 c8 d8 c9 d9 c10 d10 HT
      go_wp2_with fail
      go_region_held3 (fun wx => wx.cell? ⟨b, off + k * 11, none⟩ = some (.int .i64 f0) ∧ wx.cell? ⟨b, off + k * 11 + 1, none⟩ = some (.int .i64 f1) ∧ wx.cell? ⟨b, off + k * 11 + 2, none⟩ = some (.int .i64 f2) ∧ wx.cell? ⟨b, off + k * 11 + 3, none⟩ = some (.int .i64 f3) ∧ wx.cell? ⟨b, off + k * 11 + 4, none⟩ = some (.int .i64 f4) ∧ wx.cell? ⟨b, off + k * 11 + 5, none⟩ = some (.int .i64 f5) ∧ wx.cell? ⟨b, off + k * 11 + 6, none⟩ = some (.string f6) ∧ wx.cell? ⟨b, off + k * 11 + 7, none⟩ = some (.string f7) ∧ wx.cell? ⟨b, off + k * 11 + 8, none⟩ = some (.int .i64 f8) ∧ wx.cell? ⟨b, off + k * 11 + 9, none⟩ = some (.int .i64 f9) ∧ wx.cell? ⟨b, off + k * 11 + 10, none⟩ = some (.string f10) ∧ wx.cell? ⟨b2, off2 + k * 11, none⟩ = some (.int .i64 f0) ∧ wx.cell? ⟨b2, off2 + k * 11 + 1, none⟩ = some (.int .i64 f1) ∧ wx.cell? ⟨b2, off2 + k * 11 + 2, none⟩ = some (.int .i64 f2) ∧ wx.cell? ⟨b2, off2 + k * 11 + 3, none⟩ = some (.int .i64 f3) ∧ wx.cell? ⟨b2, off2 + k * 11 + 4, none⟩ = some (.int .i64 f4) ∧ wx.cell? ⟨b2, off2 + k * 11 + 5, none⟩ = some (.int .i64 f5) ∧ wx.cell? ⟨b2, off2 + k * 11 + 6, none⟩ = some (.string f6) ∧ wx.cell? ⟨b2, off2 + k * 11 + 7, none⟩ = some (.string f7) ∧ wx.cell? ⟨b2, off2 + k * 11 + 8, none⟩ = some (.int .i64 f8) ∧ wx.cell? ⟨b2, off2 + k * 11 + 9, none⟩ = some (.int .i64 f9) ∧ wx.cell? ⟨b2, off2 + k * 11 + 10, none⟩ = some (.string f10))
        (first | go_keep | exact ⟨(hb2.cell (p := ⟨b, off + k * 11, none⟩) (by simp; omega)).trans c0, (hb2.cell (p := ⟨b, off + k * 11 + 1, none⟩) (by simp; omega)).trans c1, (hb2.cell (p := ⟨b, off + k * 11 + 2, none⟩) (by simp; omega)).trans c2, (hb2.cell (p := ⟨b, off + k * 11 + 3, none⟩) (by simp; omega)).trans c3, (hb2.cell (p := ⟨b, off + k * 11 + 4, none⟩) (by simp; omega)).trans c4, (hb2.cell (p := ⟨b, off + k * 11 + 5, none⟩) (by simp; omega)).trans c5, (hb2.cell (p := ⟨b, off + k * 11 + 6, none⟩) (by simp; omega)).trans c6, (hb2.cell (p := ⟨b, off + k * 11 + 7, none⟩) (by simp; omega)).trans c7, (hb2.cell (p := ⟨b, off + k * 11 + 8, none⟩) (by simp; omega)).trans c8, (hb2.cell (p := ⟨b, off + k * 11 + 9, none⟩) (by simp; omega)).trans c9, (hb2.cell (p := ⟨b, off + k * 11 + 10, none⟩) (by simp; omega)).trans c10, (hb2.cell (p := ⟨b2, off2 + k * 11, none⟩) (by simp; omega)).trans d0, (hb2.cell (p := ⟨b2, off2 + k * 11 + 1, none⟩) (by simp; omega)).trans d1, (hb2.cell (p := ⟨b2, off2 + k * 11 + 2, none⟩) (by simp; omega)).trans d2, (hb2.cell (p := ⟨b2, off2 + k * 11 + 3, none⟩) (by simp; omega)).trans d3, (hb2.cell (p := ⟨b2, off2 + k * 11 + 4, none⟩) (by simp; omega)).trans d4, (hb2.cell (p := ⟨b2, off2 + k * 11 + 5, none⟩) (by simp; omega)).trans d5, (hb2.cell (p := ⟨b2, off2 + k * 11 + 6, none⟩) (by simp; omega)).trans d6, (hb2.cell (p := ⟨b2, off2 + k * 11 + 7, none⟩) (by simp; omega)).trans d7, (hb2.cell (p := ⟨b2, off2 + k * 11 + 8, none⟩) (by simp; omega)).trans d8, (hb2.cell (p := ⟨b2, off2 + k * 11 + 9, none⟩) (by simp; omega)).trans d9, (hb2.cell (p := ⟨b2, off2 + k * 11 + 10, none⟩) (by simp; omega)).trans d10⟩)
        ((go_at_call 15; refine (unhide HT _).mono ?_; rintro e w2 ⟨rfl, hb2⟩))
      all_goals
        have HBZ := hide ((unhide HB).trans (show Below w.heap.size wr w2 from (below_drewN (Below.refl _ wr) 1).trans (hb2.mono (by simpa using hbs))))
        clear hb2 HB
        go_wp2_with fail
        refine ⟨⟨k + 1, by omega, by go_num, unhide HBZ⟩, ?_⟩
        simp [intOf]; omega
    · have HB := hide hb
      clear hb
      go_wp2_with fail
      go_ret
      exact ⟨rfl, unhide HB⟩
end Go.Proofs.Ytkbnoahpkhmplaa
