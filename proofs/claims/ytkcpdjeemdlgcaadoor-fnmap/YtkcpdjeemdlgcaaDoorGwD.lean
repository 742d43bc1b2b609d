/- Pure: a right map is what it has: two that have the same are one but for their forks' hashes; what a put map has. Lists of commands: what can be read, what is one's own; the laws' eq, marks, held. The specification's l07List and MapList. Pure: the order of a map's leaves; what maps of drawn keys have behind puts. Pure: a map of drawn keys that has just the keys of a list, each with its own value. A region that draws its order, in the body of a range over a function. impl.MapList. The root of a map: the specification's. spec.MapRoot. -/
import Derived.Test.YtkcpdjeemdlgcaaDoorGwC
import Derived.Test.YtkcpdjeemdlgcaaDoorStrO
import Derived.Test.YtkcpdjeemdlgcaaDoorStr
import Derived.Deep.RegionHeld3
import Derived.Test.YtkcpdjeemdlgcaaDoorGwB
import Derived.Test.YtkcpdjeemdlgcaaDoorGwA
import Derived.RangeFuncNested
import Derived.RangeFuncWrites
import Derived.RangeFuncBox
import Derived.Shelf.Abstract
import Derived.Shelf.RegionOpen
import Derived.WalkKit
import Derived.OwnWalkIn
import Derived.TacticsInMore
import Derived.Test.YtkcpdjeemdlgcaaDoorBase
import Derived.Maps.AppendAt
import Derived.Test.YtkcpdjeemdlgcaaDoorBrC
namespace Go.Proofs.YtkcpdjeemdlgcaaDoor.Sha
open Go.ChangeShapes Go.WideShapes Go.ChangeAt Go.RowKit
set_option linter.unusedVariables false
set_option linter.unusedSimpArgs false
set_option maxRecDepth 100000

/-- A map has a value at a key. -/
def Has (t : Tr) (k v : ByteArray) : Prop := leadL (kh k) t = (k, v)
theorem has_leaf {k v k' v' : ByteArray} : Has (.leaf k v) k' v' ↔ k = k' ∧ v = v' := by
  unfold Has leadL
  simp
theorem lead_lo {h : ByteArray} {a : Nat} {hh : ByteArray} {l r : Tr} (hb : bitN h a = 0) : leadL h (.fork a hh l r) = leadL h l := by
  conv => lhs; unfold leadL
  rw [if_pos hb]
theorem lead_hi {h : ByteArray} {a : Nat} {hh : ByteArray} {l r : Tr} (hb : bitN h a ≠ 0) : leadL h (.fork a hh l r) = leadL h r := by
  conv => lhs; unfold leadL
  rw [if_neg hb]
/-- What a map has goes as the map's hash does, ahead of its first bit. -/
theorem has_alike {t : Tr} {m : Nat} {k v : ByteArray} (hr : Rise m t) (hs : Sep t) (h : Has t k v) : ∀ i, i < t.at_ → bitN (kh k) i = bitN t.hash i := by
  intro i hi
  have := lead_alike (kh k) t m hr hs i hi
  rw [h] at this
  exact this
theorem bit_or (h : ByteArray) (a : Nat) : bitN h a = 0 ∨ bitN h a = 1 := bitN_01 h a
/-- The bit of a fork, on both sides. -/
theorem fork_bits {m a : Nat} {hh : ByteArray} {l r : Tr} (hr : Rise m (.fork a hh l r)) (hs : Sep (.fork a hh l r)) : bitN l.hash a = 0 ∧ bitN r.hash a = 1 := by
  obtain ⟨r0, r1, r2, r3⟩ := hr
  obtain ⟨s0, s1, s2, s3, s4⟩ := hs
  have hfd := ((fd_iff l.hash r.hash a r1).1 s1).2
  refine ⟨s2, ?_⟩
  rcases bitN_01 r.hash a with e | e
  · exact absurd (s2.trans e.symm) hfd
  · exact e
theorem has_lo {m a : Nat} {hh : ByteArray} {l r : Tr} {k v : ByteArray} (hr : Rise m (.fork a hh l r)) (hs : Sep (.fork a hh l r)) : Has l k v ↔ Has (.fork a hh l r) k v ∧ bitN (kh k) a = 0 := by
  have hb := fork_bits hr hs
  constructor
  · intro h
    have e := has_alike hr.2.2.1 hs.2.2.2.1 h a (by have := hr.2.2.1.le; omega)
    have e0 : bitN (kh k) a = 0 := e.trans hb.1
    exact ⟨(lead_lo e0).trans h, e0⟩
  · rintro ⟨h, e0⟩
    exact (lead_lo e0).symm.trans h
theorem has_hi {m a : Nat} {hh : ByteArray} {l r : Tr} {k v : ByteArray} (hr : Rise m (.fork a hh l r)) (hs : Sep (.fork a hh l r)) : Has r k v ↔ Has (.fork a hh l r) k v ∧ bitN (kh k) a = 1 := by
  have hb := fork_bits hr hs
  constructor
  · intro h
    have e := has_alike hr.2.2.2 hs.2.2.2.2 h a (by have := hr.2.2.2.le; omega)
    have e0 : bitN (kh k) a = 1 := e.trans hb.2
    exact ⟨(lead_hi (by omega)).trans h, e0⟩
  · rintro ⟨h, e0⟩
    exact (lead_hi (by omega)).symm.trans h
theorem has_some : ∀ (t : Tr) (m : Nat), Rise m t → Sep t → ∃ k v, Has t k v
  | .leaf k v, m, hr, hs => ⟨k, v, rfl⟩
  | .fork a hh l r, m, hr, hs => by
    obtain ⟨k, v, h⟩ := has_some l (a + 1) hr.2.2.1 hs.2.2.2.1
    exact ⟨k, v, ((has_lo hr hs).1 h).1⟩
/-- Two right maps that have the same are one, but for the hashes that forks bear. -/
theorem uniq : ∀ (t1 t2 : Tr) (m1 m2 : Nat), Rise m1 t1 → Sep t1 → Rise m2 t2 → Sep t2 → (∀ k v, Has t1 k v ↔ Has t2 k v) → t1.nrm = t2.nrm
  | .leaf k v, .leaf k' v', m1, m2, hr1, hs1, hr2, hs2, h => by
    have h1 := (h k v).1 rfl
    obtain ⟨e1, e2⟩ := has_leaf.1 h1
    rw [e1, e2]
  | .leaf k v, .fork a hh l r, m1, m2, hr1, hs1, hr2, hs2, h => by
    obtain ⟨k1, v1, q1⟩ := has_some l (a + 1) hr2.2.2.1 hs2.2.2.2.1
    obtain ⟨k2, v2, q2⟩ := has_some r (a + 1) hr2.2.2.2 hs2.2.2.2.2
    obtain ⟨p1, b1⟩ := (has_lo hr2 hs2).1 q1
    obtain ⟨p2, b2⟩ := (has_hi hr2 hs2).1 q2
    obtain ⟨e1, _⟩ := has_leaf.1 ((h k1 v1).2 p1)
    obtain ⟨e2, _⟩ := has_leaf.1 ((h k2 v2).2 p2)
    rw [← e1] at b1
    rw [← e2] at b2
    omega
  | .fork a hh l r, .leaf k v, m1, m2, hr1, hs1, hr2, hs2, h => by
    obtain ⟨k1, v1, q1⟩ := has_some l (a + 1) hr1.2.2.1 hs1.2.2.2.1
    obtain ⟨k2, v2, q2⟩ := has_some r (a + 1) hr1.2.2.2 hs1.2.2.2.2
    obtain ⟨p1, b1⟩ := (has_lo hr1 hs1).1 q1
    obtain ⟨p2, b2⟩ := (has_hi hr1 hs1).1 q2
    obtain ⟨e1, _⟩ := has_leaf.1 ((h k1 v1).1 p1)
    obtain ⟨e2, _⟩ := has_leaf.1 ((h k2 v2).1 p2)
    rw [← e1] at b1
    rw [← e2] at b2
    omega
  | .fork a hh l r, .fork a' hh' l' r', m1, m2, hr1, hs1, hr2, hs2, h => by
    have haa : a = a' := by
      rcases Nat.lt_trichotomy a a' with c | c | c
      · obtain ⟨k1, v1, q1⟩ := has_some l (a + 1) hr1.2.2.1 hs1.2.2.2.1
        obtain ⟨k2, v2, q2⟩ := has_some r (a + 1) hr1.2.2.2 hs1.2.2.2.2
        obtain ⟨p1, b1⟩ := (has_lo hr1 hs1).1 q1
        obtain ⟨p2, b2⟩ := (has_hi hr1 hs1).1 q2
        have e1 := has_alike hr2 hs2 ((h k1 v1).1 p1) a c
        have e2 := has_alike hr2 hs2 ((h k2 v2).1 p2) a c
        omega
      · exact c
      · obtain ⟨k1, v1, q1⟩ := has_some l' (a' + 1) hr2.2.2.1 hs2.2.2.2.1
        obtain ⟨k2, v2, q2⟩ := has_some r' (a' + 1) hr2.2.2.2 hs2.2.2.2.2
        obtain ⟨p1, b1⟩ := (has_lo hr2 hs2).1 q1
        obtain ⟨p2, b2⟩ := (has_hi hr2 hs2).1 q2
        have e1 := has_alike hr1 hs1 ((h k1 v1).2 p1) a' c
        have e2 := has_alike hr1 hs1 ((h k2 v2).2 p2) a' c
        omega
    subst haa
    have hl := uniq l l' (a + 1) (a + 1) hr1.2.2.1 hs1.2.2.2.1 hr2.2.2.1 hs2.2.2.2.1 (fun k v => by rw [has_lo hr1 hs1, has_lo hr2 hs2, h])
    have hrr := uniq r r' (a + 1) (a + 1) hr1.2.2.2 hs1.2.2.2.2 hr2.2.2.2 hs2.2.2.2.2 (fun k v => by rw [has_hi hr1 hs1, has_hi hr2 hs2, h])
    show Tr.fork a l.nrm.hash l.nrm r.nrm = Tr.fork a l'.nrm.hash l'.nrm r'.nrm
    rw [hl, hrr]
theorem has_nrm {t : Tr} {k v : ByteArray} : Has t.nrm k v ↔ Has t k v := by unfold Has; rw [nrm_lead]
theorem lead_forkT {h' h k v : ByteArray} {a : Nat} {t : Tr} : leadL h' (forkT a h k v t) = (k, v) ∨ leadL h' (forkT a h k v t) = leadL h' t := by
  unfold forkT
  split
  · by_cases hb : bitN h' a = 0
    · exact .inl (lead_lo hb)
    · exact .inr (lead_hi hb)
  · by_cases hb : bitN h' a = 0
    · exact .inr (lead_lo hb)
    · exact .inl (lead_hi hb)
theorem lead_forkT_other {h' h k v : ByteArray} {a : Nat} {t : Tr} (hne : bitN h' a ≠ bitN h a) : leadL h' (forkT a h k v t) = leadL h' t := by
  unfold forkT
  split
  · rename_i hb
    exact lead_hi (by omega)
  · rename_i hb
    refine lead_lo ?_
    rcases bitN_01 h' a with e | e
    · exact e
    · rcases bitN_01 h a with e2 | e2
      · exact absurd e2 hb
      · exact absurd (e.trans e2.symm) hne
/-- What a map with a key put has of other keys, it had. -/
theorem put_had (h : ByteArray) (at_ : Nat) (k v k' v' : ByteArray) (hk : k ≠ k') : ∀ t : Tr, Has (putT h at_ k v t) k' v' → Has t k' v'
  | .leaf k0 v0 => by
    unfold putT
    split
    · intro e; exact absurd (has_leaf.1 e).1 hk
    · intro e
      unfold Has at e ⊢
      rcases lead_forkT (h' := kh k') (h := h) (k := k) (v := v) (a := at_) (t := .leaf k0 v0) with e1 | e1
      · rw [e1] at e; exact absurd (congrArg Prod.fst e) hk
      · rw [e1] at e; exact e
  | .fork a hh l r => by
    unfold putT
    split
    · split
      · intro e
        unfold Has at e ⊢
        by_cases hb : bitN (kh k') a = 0
        · rw [lead_lo hb] at e ⊢
          exact put_had h at_ k v k' v' hk l e
        · rw [lead_hi hb] at e ⊢
          exact e
      · intro e
        unfold Has at e ⊢
        by_cases hb : bitN (kh k') a = 0
        · rw [lead_lo hb] at e ⊢
          exact e
        · rw [lead_hi hb] at e ⊢
          exact put_had h at_ k v k' v' hk r e
    · intro e
      unfold Has at e ⊢
      rcases lead_forkT (h' := kh k') (h := h) (k := k) (v := v) (a := at_) (t := .fork a hh l r) with e1 | e1
      · rw [e1] at e; exact absurd (congrArg Prod.fst e) hk
      · rw [e1] at e; exact e
/-- What a map had of other keys it has with a key put, if no two hashes are one. -/
theorem put_has (k v k' v' : ByteArray) (hne : kh k ≠ kh k') (h32 : (kh k).size = 32) (h32' : (kh k').size = 32) : ∀ (t : Tr) (m : Nat), Rise m t → Sep t → ∀ at_, at_ = fd (kh (leadL (kh k) t).1) (kh k) → Has t k' v' → Has (putT (kh k) at_ k v t) k' v'
  | .leaf k0 v0, m, hr, hs, at_, he, e => by
    obtain ⟨e1, e2⟩ := has_leaf.1 e
    subst e1 e2
    have he' : at_ = fd (kh k0) (kh k) := he
    have hlt : at_ < 256 := by rw [he']; exact (fd_ne h32' h32).2 (fun x => hne x.symm)
    have hap := fd_apart (kh k0) (kh k) (by rw [← he']; exact hlt)
    unfold putT
    rw [if_neg (by omega)]
    unfold Has
    rw [lead_forkT_other (by rw [he']; exact hap)]
    rfl
  | .fork a hh l r, m, hr, hs, at_, he, e => by
    have hal := has_alike hr hs e
    have hlk := lead_alike (kh k) (.fork a hh l r) m hr hs
    have hr' := hr
    have hs' := hs
    obtain ⟨r0, r1, r2, r3⟩ := hr
    obtain ⟨s0, s1, s2, s3, s4⟩ := hs
    unfold putT
    by_cases hlt : a < at_
    · rw [if_pos hlt]
      by_cases hb : bitN (kh k) a = 0
      · rw [if_pos hb]
        have hel : at_ = fd (kh (leadL (kh k) l).1) (kh k) := by rw [he, lead_lo hb]
        unfold Has at e ⊢
        by_cases hb' : bitN (kh k') a = 0
        · rw [lead_lo hb'] at e ⊢
          exact put_has k v k' v' hne h32 h32' l (a + 1) r2 s3 at_ hel e
        · rw [lead_hi hb'] at e ⊢
          exact e
      · rw [if_neg hb]
        have hel : at_ = fd (kh (leadL (kh k) r).1) (kh k) := by rw [he, lead_hi hb]
        unfold Has at e ⊢
        by_cases hb' : bitN (kh k') a = 0
        · rw [lead_lo hb'] at e ⊢
          exact e
        · rw [lead_hi hb'] at e ⊢
          exact put_has k v k' v' hne h32 h32' r (a + 1) r3 s4 at_ hel e
    · rw [if_neg hlt]
      have hbit := lead_bit (kh k) hr' hs'
      have hna : at_ ≠ a := fun x => by
        have h9 := fd_apart (kh (leadL (kh k) (.fork a hh l r)).1) (kh k) (by rw [← he, x]; exact r1)
        rw [← he, x] at h9
        exact h9 hbit
      have hlt2 : at_ < a := by omega
      have h9 := fd_apart (kh (leadL (kh k) (.fork a hh l r)).1) (kh k) (by rw [← he]; omega)
      rw [← he, hlk at_ hlt2] at h9
      unfold Has at e ⊢
      rw [lead_forkT_other (by rw [hal at_ hlt2]; exact h9)]
      exact e
end Go.Proofs.YtkcpdjeemdlgcaaDoor.Sha
namespace Go.Proofs.YtkcpdjeemdlgcaaDoor
open Go.ChangeShapes Go.WideShapes Go.ChangeAt Go.RowKit
set_option linter.unusedVariables false
set_option linter.unusedSimpArgs false

structure Cm where
  kd : Int
  ss : Int
  sq : Int
  ky : ByteArray
  vl : ByteArray
deriving Inhabited
def cmC (f : Cm) : List Value := [.int .i64 f.kd, .int .i64 f.ss, .int .i64 f.sq, .string f.ky, .string f.vl]
def csC (l : List Cm) : List Value := l.flatMap cmC
/-- The value is a slice that holds these commands. -/
def Css (w : World) (v : Value) (l : List Cm) : Prop :=
  ∃ a cap, v = .slice a l.length cap ∧ l.length ≤ cap ∧ cap ≤ maxLen ∧ (l.length = 0 ∨ ∃ b off, a = some ⟨b, off, none⟩ ∧ b < w.heap.size ∧ ∀ i, i < l.length → w.cell? ⟨b, off + i * 5, none⟩ = some (.int .i64 (l.getD i default).kd) ∧ w.cell? ⟨b, off + i * 5 + 1, none⟩ = some (.int .i64 (l.getD i default).ss) ∧ w.cell? ⟨b, off + i * 5 + 2, none⟩ = some (.int .i64 (l.getD i default).sq) ∧ w.cell? ⟨b, off + i * 5 + 3, none⟩ = some (.string (l.getD i default).ky) ∧ w.cell? ⟨b, off + i * 5 + 4, none⟩ = some (.string (l.getD i default).vl))
theorem Css.below {w w' : World} {v : Value} {l : List Cm} (h : Css w v l) (hb : Below w.heap.size w w') : Css w' v l := by
  obtain ⟨a, cap, hv, hn, hm, hc⟩ := h
  refine ⟨a, cap, hv, hn, hm, ?_⟩
  rcases hc with h0 | ⟨b, off, ha, hlt, hc⟩
  · exact .inl h0
  · exact .inr ⟨b, off, ha, Nat.lt_of_lt_of_le hlt hb.size, fun i hi => ⟨(hb.cell (p := ⟨b, off + i * 5, none⟩) hlt).trans (hc i hi).1, (hb.cell (p := ⟨b, off + i * 5 + 1, none⟩) hlt).trans (hc i hi).2.1, (hb.cell (p := ⟨b, off + i * 5 + 2, none⟩) hlt).trans (hc i hi).2.2.1, (hb.cell (p := ⟨b, off + i * 5 + 3, none⟩) hlt).trans (hc i hi).2.2.2.1, (hb.cell (p := ⟨b, off + i * 5 + 4, none⟩) hlt).trans (hc i hi).2.2.2.2⟩⟩
theorem csC_len (l : List Cm) : (csC l).length = l.length * 5 := by
  induction l with
  | nil => rfl
  | cons f r ih => simp only [csC, List.flatMap_cons, List.length_append, List.length_cons] at ih ⊢; rw [ih]; simp [cmC]; omega
theorem csC_app (x y : List Cm) : csC (x ++ y) = csC x ++ csC y := by simp [csC]
theorem csC_get : ∀ (l : List Cm) (i : Nat), i < l.length → (csC l)[i * 5]? = some (.int .i64 (l.getD i default).kd) ∧ (csC l)[i * 5 + 1]? = some (.int .i64 (l.getD i default).ss) ∧ (csC l)[i * 5 + 2]? = some (.int .i64 (l.getD i default).sq) ∧ (csC l)[i * 5 + 3]? = some (.string (l.getD i default).ky) ∧ (csC l)[i * 5 + 4]? = some (.string (l.getD i default).vl)
  | [], i, h => by simp at h
  | f :: r, 0, h => ⟨rfl, rfl, rfl, rfl, rfl⟩
  | f :: r, i + 1, h => by
    have ih := csC_get r i (by simpa using h)
    have e : csC (f :: r) = .int .i64 f.kd :: .int .i64 f.ss :: .int .i64 f.sq :: .string f.ky :: .string f.vl :: csC r := rfl
    rw [e, show (i + 1) * 5 = i * 5 + 1 + 1 + 1 + 1 + 1 by omega, show i * 5 + 1 + 1 + 1 + 1 + 1 + 1 = (i * 5 + 1) + 1 + 1 + 1 + 1 + 1 by omega, show i * 5 + 1 + 1 + 1 + 1 + 1 + 2 = (i * 5 + 2) + 1 + 1 + 1 + 1 + 1 by omega, show i * 5 + 1 + 1 + 1 + 1 + 1 + 3 = (i * 5 + 3) + 1 + 1 + 1 + 1 + 1 by omega, show i * 5 + 1 + 1 + 1 + 1 + 1 + 4 = (i * 5 + 4) + 1 + 1 + 1 + 1 + 1 by omega]
    simp only [List.getElem?_cons_succ, List.getD_cons_succ]
    exact ih
theorem csC_set : ∀ (l : List Cm) (k : Nat) (f : Cm), k < l.length → ((((((csC l).set (k * 5) (.int .i64 f.kd)).set (k * 5 + 1) (.int .i64 f.ss)).set (k * 5 + 2) (.int .i64 f.sq)).set (k * 5 + 3) (.string f.ky)).set (k * 5 + 4) (.string f.vl)) = csC (l.set k f)
  | [], k, f, h => by simp at h
  | g :: r, 0, f, h => rfl
  | g :: r, k + 1, f, h => by
    have ih := csC_set r k f (by simpa using h)
    have e : ∀ (g : Cm) (r : List Cm), csC (g :: r) = .int .i64 g.kd :: .int .i64 g.ss :: .int .i64 g.sq :: .string g.ky :: .string g.vl :: csC r := fun _ _ => rfl
    rw [List.set_cons_succ, e, e, ← ih, show (k + 1) * 5 = k * 5 + 1 + 1 + 1 + 1 + 1 by omega, show k * 5 + 1 + 1 + 1 + 1 + 1 + 1 = (k * 5 + 1) + 1 + 1 + 1 + 1 + 1 by omega, show k * 5 + 1 + 1 + 1 + 1 + 1 + 2 = (k * 5 + 2) + 1 + 1 + 1 + 1 + 1 by omega, show k * 5 + 1 + 1 + 1 + 1 + 1 + 3 = (k * 5 + 3) + 1 + 1 + 1 + 1 + 1 by omega, show k * 5 + 1 + 1 + 1 + 1 + 1 + 4 = (k * 5 + 4) + 1 + 1 + 1 + 1 + 1 by omega]
    simp only [List.set_cons_succ]
/-- The value is a slice of the call's own, from block B on, that holds these commands. -/
def OwnC (B : Nat) (w : World) (v : Value) (l : List Cm) : Prop := w.ownsRow B 39 5 v l.length (csC l)
theorem OwnC.cells {B : Nat} {w : World} {g cap n : Nat} {l : List Cm} (h : w.ownsRow B 39 5 (.slice (some ⟨g, 0, none⟩) n cap) n (csC l)) (i : Nat) (hi : i < l.length) (hn : n = l.length) :
    w.cell? ⟨g, i * 5, none⟩ = some (.int .i64 (l.getD i default).kd) ∧ w.cell? ⟨g, i * 5 + 1, none⟩ = some (.int .i64 (l.getD i default).ss) ∧ w.cell? ⟨g, i * 5 + 2, none⟩ = some (.int .i64 (l.getD i default).sq) ∧ w.cell? ⟨g, i * 5 + 3, none⟩ = some (.string (l.getD i default).ky) ∧ w.cell? ⟨g, i * 5 + 4, none⟩ = some (.string (l.getD i default).vl) := by
  obtain ⟨e0, e1, e2, e3, e4⟩ := csC_get l i hi
  exact ⟨(h.cellAt _ (by omega)).trans e0, (h.cellAt _ (by omega)).trans e1, (h.cellAt _ (by omega)).trans e2, (h.cellAt _ (by omega)).trans e3, (h.cellAt _ (by omega)).trans e4⟩
theorem OwnC.read {B : Nat} {w : World} {v : Value} {l : List Cm} (h : OwnC B w v l) : Css w v l := by
  rcases h.2 with ⟨rfl, h0⟩ | ⟨g, cap, cur, rfl, hb, hg, hn, hm, _⟩
  · obtain rfl := List.eq_nil_of_length_eq_zero h0
    exact ⟨none, 0, rfl, Nat.le_refl _, by unfold maxLen; omega, .inl rfl⟩
  · refine ⟨_, _, rfl, hn, hm, .inr ⟨g, 0, rfl, (Array.getElem?_eq_some_iff.1 hg).1, fun i hi => ?_⟩⟩
    have := OwnC.cells h i hi rfl
    simpa using this
theorem OwnC.kept {T : Nat → Prop} {B : Nat} {w w' : World} {v : Value} {l : List Cm} (h : OwnC B w v l) (ht : Touch T w w') (hn : ∀ k, v.ownBlock = some k → ¬ T k) : OwnC B w' v l := own_kept h ht hn
theorem OwnC.below {B : Nat} {w w' : World} {v : Value} {l : List Cm} (h : OwnC B w v l) (hb : Below w.heap.size w w') : OwnC B w' v l := h.kept (T := fun _ => False) (Touch.ofBelow hb) (fun _ _ h => h)
theorem OwnC.lt {B : Nat} {w : World} {v : Value} {l : List Cm} (h : OwnC B w v l) : ∀ k, v.ownBlock = some k → B ≤ k ∧ k < w.heap.size := World.ownsRow.lt h
theorem OwnC.down {B B' : Nat} {w : World} {v : Value} {l : List Cm} (h : OwnC B w v l) (hB : B' ≤ B) : OwnC B' w v l := by
  obtain ⟨hl, hc⟩ := h
  refine ⟨hl, ?_⟩
  rcases hc with h0 | ⟨g, cap, cur, hv, hg, rest⟩
  · exact .inl h0
  · exact .inr ⟨g, cap, cur, hv, by omega, rest⟩
theorem OwnC.nil (B : Nat) (w : World) : OwnC B w (.slice none 0 0) [] := World.ownsRow_nil w B 39 5
theorem infoCm : (Tryd.prog.info? 39).map (fun i => (i.zero, i.size, i.bytes)) = some (some (.agg #[.int .i64 0, .int .i64 0, .int .i64 0, .string ⟨#[]⟩, .string ⟨#[]⟩]), 5, 56) := by kernel_rfl
theorem wrapCm (n : Int) (h0 : 0 ≤ n) (h1 : n < 9223372036854775808) : IntKind.i64.wrap n = n := by
  simp only [IntKind.wrap, IntKind.bits, IntKind.signed]
  simp
  omega
def cmk (c j : Nat) : Cm := ⟨(c : Int) + 5 * (j : Int), (c : Int) + 5 * (j : Int) + 1, (c : Int) + 5 * (j : Int) + 1 + 1, mtx (c + 5 * j + 3), mtx (c + 5 * j + 4)⟩
def cmkTo (c : Nat) (l : List Cm) (k : Nat) : List Cm := (List.range l.length).map fun j => if j < k then cmk c j else l.getD j default
def cmks (c n : Nat) : List Cm := (List.range n).map fun j => cmk c j
theorem cmkTo_len (c : Nat) (l : List Cm) (k : Nat) : (cmkTo c l k).length = l.length := by simp [cmkTo]
theorem cmks_len (c n : Nat) : (cmks c n).length = n := by simp [cmks]
theorem cmks_get (c n j : Nat) (h : j < n) : (cmks c n).getD j default = cmk c j := by simp [cmks, List.getD_eq_getElem?_getD, h]
theorem cmkTo_zero (c : Nat) (l : List Cm) : cmkTo c l 0 = l := by
  apply List.ext_getElem?
  intro j
  by_cases hj : j < l.length
  · simp [cmkTo, hj, List.getD_eq_getElem?_getD]
  · simp [cmkTo, hj]
theorem cmkTo_all (c : Nat) (l : List Cm) : cmkTo c l l.length = cmks c l.length := by
  apply List.ext_getElem?
  intro j
  by_cases hj : j < l.length
  · simp [cmkTo, cmks, hj]
  · simp [cmkTo, cmks, hj]
theorem cmkTo_set (c : Nat) (l : List Cm) (k : Nat) (hk : k < l.length) : (cmkTo c l k).set k (cmk c k) = cmkTo c l (k + 1) := by
  apply List.ext_getElem?
  intro j
  rw [List.getElem?_set]
  simp only [cmkTo_len]
  by_cases e : k = j
  · subst e
    rw [if_pos rfl, if_pos hk]
    simp [cmkTo, hk]
  · rw [if_neg e]
    by_cases hj : j < l.length
    · by_cases h1 : j < k
      · simp [cmkTo, hj, h1, show j < k + 1 by omega]
      · simp [cmkTo, hj, h1, show ¬ j < k + 1 by omega]
    · simp [cmkTo, hj]
end Go.Proofs.YtkcpdjeemdlgcaaDoor
namespace Go.Proofs.YtkcpdjeemdlgcaaDoor.Sha
open Go.ChangeShapes Go.WideShapes Go.ChangeAt Go.RowKit
set_option linter.unusedVariables false
set_option linter.unusedSimpArgs false

/-- The commands that put what a map holds, in its order. -/
def Tr.cms (t : Tr) : List Cm := t.lvs.map fun p => ⟨1, 0, 0, p.1, p.2⟩
def cmsO : Option Tr → List Cm
  | none => []
  | some t => t.cms
def mlOut (b : Br) : List Cm × Int := match mapV b with
  | none => ([], 1)
  | some o => (cmsO o, 0)
theorem lvs_lvN : ∀ t : Tr, t.lvs.length = t.lvN
  | .leaf _ _ => rfl
  | .fork _ _ l r => by show (l.lvs ++ r.lvs).length = l.lvN + r.lvN; rw [List.length_append, lvs_lvN l, lvs_lvN r]
theorem cms_len (t : Tr) : t.cms.length = t.lvN := by rw [Tr.cms, List.length_map, lvs_lvN]
theorem cms_fork (a : Nat) (h : ByteArray) (l r : Tr) : (Tr.fork a h l r).cms = l.cms ++ r.cms := by show (l.lvs ++ r.lvs).map _ = _; rw [List.map_append]; rfl
theorem grownO {w5 w6 : World} {r : Option Nat} (hg : w5.grownBy w6 r) : Touch (fun q => r = some q) w5 w6 := (Touch.refl _ w5).grown hg (fun q hq _ => hq)
/-- A block of one command, as a slice. -/
theorem cm_rw (w : World) (f : Cm) (ty : TypeId) : Rw (w.alloc (.cells #[.int .i64 f.kd, .int .i64 f.ss, .int .i64 f.sq, .string f.ky, .string f.vl] ty)) (.slice (some ⟨w.heap.size, 0, none⟩) 1 1) 1 (cmC f) := by
  refine ⟨_, _, rfl, .inr ⟨_, rfl, fun j u hu => ?_⟩⟩
  have N := Blk.new w #[.int .i64 f.kd, .int .i64 f.ss, .int .i64 f.sq, .string f.ky, .string f.vl] ty w.heap.size rfl
  have hadd : (⟨w.heap.size, 0, none⟩ : Addr).add j = ⟨w.heap.size, j, none⟩ := by unfold Addr.add; split <;> simp_all
  rw [hadd]
  exact N.cell j hu
theorem own_push {B : Nat} {w : World} {v : Value} {l : List Cm} {f : Cm} (h : w.ownsRow B 39 5 v (l.length + 1) (csC l ++ cmC f)) : OwnC B w v (l ++ [f]) := by
  unfold OwnC
  rw [csC_app, List.length_append, show csC [f] = cmC f from rfl]
  exact h
/-- What l07List answers: the list, longer by the map's commands; what it has written. -/
def LiR (B : Nat) (ov : Value) (l : List Cm) (w : World) (e : Ending) (w' : World) : Prop := ∃ v, e = .returned v ∧ OwnC B w' v l ∧ Touch (fun q => ov.ownBlock = some q) w w' ∧ (∀ q, v.ownBlock = some q → ov.ownBlock = some q ∨ w.heap.size ≤ q)
theorem cap_le (o : Option Tr) (h : SepO o) : (cmsO o).length ≤ 40 := by
  cases o with
  | none => show 0 ≤ 40; omega
  | some t => show t.cms.length ≤ 40; rw [cms_len]; exact h.2
theorem ml_len (b : Br) : (mlOut b).1.length ≤ 40 := by
  unfold mlOut
  cases h : mapV b with
  | none => show 0 ≤ 40; omega
  | some o => exact cap_le o (mapV_sep h)
end Go.Proofs.YtkcpdjeemdlgcaaDoor.Sha
namespace Go.Proofs.YtkcpdjeemdlgcaaDoor.Sha
open Go.ChangeShapes Go.WideShapes Go.ChangeAt Go.RowKit
set_option linter.unusedVariables false
set_option linter.unusedSimpArgs false
set_option maxRecDepth 100000

theorem less_at : ∀ (k : Nat) (x y : List UInt8), k < x.length → k < y.length → (∀ j, j < k → (x.getD j 0).toNat = (y.getD j 0).toNat) → (x.getD k 0).toNat < (y.getD k 0).toNat → Op.bytesLess x y = true
  | 0, a :: x, b :: y, _, _, _, h => by
    have h' : a.toNat < b.toNat := h
    have : a < b := UInt8.lt_iff_toNat_lt.2 h'
    simp [Op.bytesLess, this]
  | k + 1, a :: x, b :: y, h1, h2, he, h => by
    have h0 : a.toNat = b.toNat := he 0 (by omega)
    have : a = b := UInt8.toNat_inj.1 h0
    subst this
    have ih := less_at k x y (by simpa using h1) (by simpa using h2) (fun j hj => by simpa using he (j + 1) (by omega)) (by simpa using h)
    simp [Op.bytesLess, ih]
  | _, [], _, h1, _, _, _ => by simp at h1
  | _, _ :: _, [], _, h2, _, _ => by simp at h2
theorem bit_byte (h : ByteArray) (j r : Nat) (hr : r < 8) : bitN h (8 * j + r) = (((h.data.toList.getD j 0).toNat / 2 ^ (7 - r) % 2 : Nat) : Int) := by
  unfold bitN bAt
  have e1 : (8 * j + r) / 8 = j := by omega
  have e2 : (8 * j + r) % 8 = r := by omega
  rw [e1, e2]
  push_cast
  rfl
theorem byte_same (p q : Nat) (hp : p < 256) (hq : q < 256) (h : ∀ r, r < 8 → p / 2 ^ (7 - r) % 2 = q / 2 ^ (7 - r) % 2) : p = q := by
  have h0 := h 0 (by omega); have h1 := h 1 (by omega); have h2 := h 2 (by omega); have h3 := h 3 (by omega)
  have h4 := h 4 (by omega); have h5 := h 5 (by omega); have h6 := h 6 (by omega); have h7 := h 7 (by omega)
  simp at h0 h1 h2 h3 h4 h5 h6 h7
  omega
theorem byte_less (p q : Nat) (hp : p < 256) (hq : q < 256) (r : Nat) (hr : r < 8) (h : ∀ s, s < r → p / 2 ^ (7 - s) % 2 = q / 2 ^ (7 - s) % 2) (h0 : p / 2 ^ (7 - r) % 2 = 0) (h1 : q / 2 ^ (7 - r) % 2 = 1) : p < q := by
  rcases r with _ | _ | _ | _ | _ | _ | _ | _ | r
  · simp at h0 h1; omega
  · have a0 := h 0 (by omega); simp at h0 h1 a0; omega
  · have a0 := h 0 (by omega); have a1 := h 1 (by omega); simp at h0 h1 a0 a1; omega
  · have a0 := h 0 (by omega); have a1 := h 1 (by omega); have a2 := h 2 (by omega); simp at h0 h1 a0 a1 a2; omega
  · have a0 := h 0 (by omega); have a1 := h 1 (by omega); have a2 := h 2 (by omega); have a3 := h 3 (by omega); simp at h0 h1 a0 a1 a2 a3; omega
  · have a0 := h 0 (by omega); have a1 := h 1 (by omega); have a2 := h 2 (by omega); have a3 := h 3 (by omega); have a4 := h 4 (by omega); simp at h0 h1 a0 a1 a2 a3 a4; omega
  · have a0 := h 0 (by omega); have a1 := h 1 (by omega); have a2 := h 2 (by omega); have a3 := h 3 (by omega); have a4 := h 4 (by omega); have a5 := h 5 (by omega); simp at h0 h1 a0 a1 a2 a3 a4 a5; omega
  · have a0 := h 0 (by omega); have a1 := h 1 (by omega); have a2 := h 2 (by omega); have a3 := h 3 (by omega); have a4 := h 4 (by omega); have a5 := h 5 (by omega); have a6 := h 6 (by omega); simp at h0 h1 a0 a1 a2 a3 a4 a5 a6; omega
  · omega
/-- Of two hashes that part at a bit the one that has 0 there is the lesser. -/
theorem bits_less (x y : ByteArray) (hx : x.size = 32) (hy : y.size = 32) (a : Nat) (ha : a < 256) (h : ∀ i, i < a → bitN x i = bitN y i) (h0 : bitN x a = 0) (h1 : bitN y a = 1) : Op.bytesLess x.toList y.toList = true := by
  have ex : x.toList = x.data.toList := by rw [ByteArray.toList_eq]
  have ey : y.toList = y.data.toList := by rw [ByteArray.toList_eq]
  have lx : x.data.toList.length = 32 := by simpa using hx
  have ly : y.data.toList.length = 32 := by simpa using hy
  rw [ex, ey]
  obtain ⟨k, r, hr, rfl⟩ : ∃ k r, r < 8 ∧ a = 8 * k + r := ⟨a / 8, a % 8, by omega, by omega⟩
  have hb : ∀ (z : ByteArray) j, (z.data.toList.getD j 0).toNat < 256 := fun z j => (z.data.toList.getD j 0).toNat_lt
  refine less_at k _ _ (by omega) (by omega) (fun j hj => ?_) ?_
  · refine byte_same _ _ (hb x j) (hb y j) (fun s hs => ?_)
    have e := h (8 * j + s) (by omega)
    rw [bit_byte x j s hs, bit_byte y j s hs] at e
    exact Int.ofNat_inj.1 e
  · refine byte_less _ _ (hb x k) (hb y k) r hr (fun s hs => ?_) ?_ ?_
    · have e := h (8 * k + s) (by omega)
      rw [bit_byte x k s (by omega), bit_byte y k s (by omega)] at e
      exact Int.ofNat_inj.1 e
    · rw [bit_byte x k r hr] at h0
      exact Int.ofNat_inj.1 h0
    · rw [bit_byte y k r hr] at h1
      exact Int.ofNat_inj.1 h1
theorem mem_alike : ∀ (t : Tr) (m : Nat), Rise m t → Sep t → ∀ p, p ∈ t.lvs → ∀ i, i < t.at_ → bitN (kh p.1) i = bitN t.hash i
  | .leaf k v, m, hr, hs, p, hp, i, hi => by
    have : p = (k, v) := by simpa [Tr.lvs] using hp
    rw [this]; rfl
  | .fork a hh l r, m, hr, hs, p, hp, i, hi => by
    obtain ⟨r0, r1, r2, r3⟩ := hr
    obtain ⟨s0, s1, s2, s3, s4⟩ := hs
    have hll := r2.le
    have hrl := r3.le
    have hi' : i < a := hi
    have hfd := (fd_iff l.hash r.hash a r1).1 s1
    show bitN (kh p.1) i = bitN hh i
    rcases List.mem_append.1 hp with h | h
    · rw [mem_alike l (a + 1) r2 s3 p h i (by omega), s0 i hi']
    · rw [mem_alike r (a + 1) r3 s4 p h i (by omega), s0 i hi', hfd.1 i hi']
theorem mem_ok : ∀ (t : Tr), TrOK t → ∀ p, p ∈ t.lvs → okK p.1 = true
  | .leaf k v, h, p, hp => by
    have : p = (k, v) := by simpa [Tr.lvs] using hp
    rw [this]; exact h.1
  | .fork a hh l r, h, p, hp => by
    rcases List.mem_append.1 hp with q | q
    · exact mem_ok l h.2.2.1 p q
    · exact mem_ok r h.2.2.2 p q
/-- A map's leaves stand by their hashes. -/
theorem lvs_rise : ∀ (t : Tr) (m : Nat), TrOK t → Rise m t → Sep t → t.lvs.Pairwise (fun p q => Op.bytesLess (kh p.1).toList (kh q.1).toList = true)
  | .leaf k v, m, ho, hr, hs => by simp [Tr.lvs]
  | .fork a hh l r, m, ho, hr, hs => by
    have hb := fork_bits hr hs
    obtain ⟨r0, r1, r2, r3⟩ := hr
    obtain ⟨s0, s1, s2, s3, s4⟩ := hs
    have hll := r2.le
    have hrl := r3.le
    have hfd := (fd_iff l.hash r.hash a r1).1 s1
    show (l.lvs ++ r.lvs).Pairwise _
    refine List.pairwise_append.2 ⟨lvs_rise l (a + 1) ho.2.2.1 r2 s3, lvs_rise r (a + 1) ho.2.2.2 r3 s4, fun p hp q hq => ?_⟩
    have k1 := kh_size (k := p.1) (by have := (okK_iff.1 (mem_ok l ho.2.2.1 p hp)).2; omega)
    have k2 := kh_size (k := q.1) (by have := (okK_iff.1 (mem_ok r ho.2.2.2 q hq)).2; omega)
    refine bits_less _ _ k1 k2 a r1 (fun i hi => ?_) ?_ ?_
    · rw [mem_alike l (a + 1) r2 s3 p hp i (by omega), mem_alike r (a + 1) r3 s4 q hq i (by omega)]
      exact hfd.1 i hi
    · rw [mem_alike l (a + 1) r2 s3 p hp a (by omega)]; exact hb.1
    · rw [mem_alike r (a + 1) r3 s4 q hq a (by omega)]; exact hb.2

def HasO (o : Option Tr) (k v : ByteArray) : Prop := match o with
  | none => False
  | some t => Has t k v
theorem hasO_key {o : Option Tr} (h : DrM o) {k v : ByteArray} (hk : HasO o k v) : ∃ j, j < 64 ∧ k = keyN j := by
  cases o with
  | none => cases hk
  | some t =>
    obtain ⟨j, hj, e⟩ := KI.lead (kh k) (t := t) h.ki
    have e2 : leadL (kh k) t = (k, v) := hk
    rw [e2] at e
    exact ⟨j, hj, e⟩
theorem hasO_nrm {o : Option Tr} {k v : ByteArray} : HasO (nrmO o) k v ↔ HasO o k v := by
  cases o with
  | none => exact Iff.rfl
  | some t => exact has_nrm
theorem has_one {o : Option Tr} {k v v' : ByteArray} (h : HasO o k v) (h' : HasO o k v') : v = v' := by
  cases o with
  | none => cases h
  | some t =>
    have e : leadL (kh k) t = (k, v) := h
    have e' : leadL (kh k) t = (k, v') := h'
    rw [e] at e'
    exact congrArg Prod.snd e'
/-- What a map of drawn keys has behind a put. -/
theorem put_hasO {o : Option Tr} (h : DrM o) {j : Nat} (hj : j < 64) (val : ByteArray) (k v : ByteArray) :
    HasO (some (mpT o (keyN j) val)) k v ↔ (k = keyN j ∧ v = val) ∨ (k ≠ keyN j ∧ HasO o k v) := by
  cases o with
  | none =>
    show Has (.leaf (keyN j) val) k v ↔ _
    rw [has_leaf]
    constructor
    · rintro ⟨e1, e2⟩; exact .inl ⟨e1.symm, e2.symm⟩
    · rintro (⟨e1, e2⟩ | ⟨_, e⟩)
      · exact ⟨e1.symm, e2.symm⟩
      · cases e
  | some t =>
    show Has (putT (kh (keyN j)) (putAt t (keyN j)) (keyN j) val t) k v ↔ _
    have hks := kh_size (k := keyN j) (by have := (okK_iff.1 (keys_ok ⟨j, hj⟩)).2; dsimp only at this; omega)
    by_cases hk : k = keyN j
    · subst hk
      have e := put_lead (kh (keyN j)) (putAt t (keyN j)) (keyN j) val t
      constructor
      · intro h2
        have h3 : leadL (kh (keyN j)) (putT (kh (keyN j)) (putAt t (keyN j)) (keyN j) val t) = (keyN j, v) := h2
        rw [e] at h3
        exact .inl ⟨rfl, (congrArg Prod.snd h3).symm⟩
      · rintro (⟨_, e2⟩ | ⟨e2, _⟩)
        · rw [e2]; exact e
        · exact absurd rfl e2
    · constructor
      · intro h2
        exact .inr ⟨hk, put_had _ _ _ _ _ _ (fun x => hk x.symm) t h2⟩
      · rintro (⟨e2, _⟩ | ⟨_, h2⟩)
        · exact absurd e2 hk
        · obtain ⟨i, hi, rfl⟩ := hasO_key h h2
          have hki := kh_size (k := keyN i) (by have := (okK_iff.1 (keys_ok ⟨i, hi⟩)).2; dsimp only at this; omega)
          refine put_has _ _ _ _ (fun x => hk ?_) hks hki t 0 h.ri h.sp.1 _ rfl h2
          exact (kh_inj (keyN_mem hj) (keyN_mem hi) x).symm
/-- Two maps of drawn keys that have the same have one root. -/
theorem same_root {o o' : Option Tr} (h : DrM o) (h' : DrM o') (he : ∀ k v, HasO o k v ↔ HasO o' k v) : rootR o = rootR o' := by
  cases o with
  | none =>
    cases o' with
    | none => rfl
    | some t' =>
      obtain ⟨k, v, hh⟩ := has_some t' 0 h'.ri h'.sp.1
      exact absurd ((he k v).2 hh) (by intro x; cases x)
  | some t =>
    cases o' with
    | none =>
      obtain ⟨k, v, hh⟩ := has_some t 0 h.ri h.sp.1
      exact absurd ((he k v).1 hh) (by intro x; cases x)
    | some t' =>
      have e := uniq t t' 0 0 h.ri h.sp.1 h'.ri h'.sp.1 he
      show trR t = trR t'
      rw [← nrm_trR t, e, nrm_trR t']
/-- A key that is not there makes a map greater by one. -/
theorem put_grow {o : Option Tr} (h : DrM o) {j : Nat} (hj : j < 64) (hn : ∀ v, ¬ HasO o (keyN j) v) (val : ByteArray) : lvO (some (mpT o (keyN j) val)) = lvO o + 1 := by
  cases o with
  | none => rfl
  | some t =>
    have hat : putAt t (keyN j) ≤ 256 := fd_le _ _
    obtain ⟨i, hi, hli⟩ := KI.lead (kh (keyN j)) (t := t) h.ki
    have hok := (lead_ok (kh (keyN j)) t h.ok).1
    have h32 := kh_size (k := (leadL (kh (keyN j)) t).1) (by have := (okK_iff.1 hok).2; omega)
    have hks := kh_size (k := keyN j) (by have := (okK_iff.1 (keys_ok ⟨j, hj⟩)).2; dsimp only at this; omega)
    have hlt : putAt t (keyN j) < 256 := by
      refine (fd_ne h32 hks).2 (fun eq => ?_)
      rw [hli] at eq
      have e1 := kh_inj (keyN_mem hi) (keyN_mem hj) eq
      refine hn (leadL (kh (keyN j)) t).2 ?_
      show leadL (kh (keyN j)) t = (keyN j, _)
      exact Prod.ext (hli.trans e1) rfl
    show (putT (kh (keyN j)) (putAt t (keyN j)) (keyN j) val t).lvN = t.lvN + 1
    rw [putT_lvN _ _ _ _ hat t h.ok, if_pos hlt]
/-- A put of a drawn key, as long as there is room. -/
theorem mp_room {o : Option Tr} (h : DrM o) (hlt : lvO o < 40) {j : Nat} (hj : j < 64) {val : ByteArray} (hv : val.size ≤ 60) : mpOut (brOf o) (keyN j) val = (brOf (some (mpT (nrmO o) (keyN j) val)), 0) := by
  rw [mp_dr h (keys_ok ⟨j, hj⟩) hv]
  cases o with
  | none => rfl
  | some t =>
    have h40 : t.lvN < 40 := hlt
    show (if putAt t.nrm (keyN j) < 256 ∧ t.nrm.lvN = 40 then (brOf none, (7 : Int)) else (brOf (some (putT (kh (keyN j)) (putAt t.nrm (keyN j)) (keyN j) val t.nrm)), 0)) = _
    rw [if_neg (by rw [nrm_lvN]; omega)]
    rfl
theorem lvO_nrm (o : Option Tr) : lvO (nrmO o) = lvO o := by
  cases o with
  | none => rfl
  | some t => exact nrm_lvN t
theorem mg_has {o : Option Tr} (h : DrM o) {j : Nat} (hj : j < 64) {v : ByteArray} (hh : HasO o (keyN j) v) : mgOut (brOf o) (keyN j) = .tuple #[.string v, .int .i64 0] := by
  rw [mg_dr h (keys_ok ⟨j, hj⟩)]
  have h2 := hasO_nrm.2 hh
  cases ho : nrmO o with
  | none => rw [ho] at h2; cases h2
  | some t =>
    rw [ho] at h2
    have e : leadL (kh (keyN j)) t = (keyN j, v) := h2
    have e2 : getV (some t) (keyN j) = some v := by
      show (if (leadL (kh (keyN j)) t).1 = keyN j then some (leadL (kh (keyN j)) t).2 else none) = _
      rw [e, if_pos rfl]
    rw [e2]
end Go.Proofs.YtkcpdjeemdlgcaaDoor.Sha
namespace Go.Proofs.YtkcpdjeemdlgcaaDoor.Sha
open Go.ChangeShapes Go.WideShapes Go.ChangeAt Go.RowKit
set_option linter.unusedVariables false
set_option linter.unusedSimpArgs false
set_option maxRecDepth 100000

/-- The value that stands at a key. -/
def vOf (j : Nat) : ByteArray := (⟨#[118]⟩ : ByteArray) ++ keyN j
theorem keyN_24 {j : Nat} (hj : j < 64) : 1 ≤ (keyN j).size ∧ (keyN j).size ≤ 24 := by have := okK_iff.1 (keys_ok ⟨j, hj⟩); dsimp only at this; exact this
theorem vOf_size {j : Nat} (hj : j < 64) : (vOf j).size ≤ 60 := by
  have h := keyN_24 hj
  show ((⟨#[118]⟩ : ByteArray) ++ keyN j).size ≤ 60
  rw [ByteArray.size_append]
  have : (⟨#[118]⟩ : ByteArray).size = 1 := rfl
  omega
structure HasL (o : Option Tr) (T : List Nat) : Prop where
  dr : DrM o
  has : ∀ k v, HasO o k v ↔ ∃ j, j ∈ T ∧ k = keyN j ∧ v = vOf j
  len : lvO o = T.length
theorem hasL_nil : HasL none [] := by
  refine ⟨⟨trivial, trivial, trivial, Nat.zero_le _, trivial⟩, fun k v => ⟨fun h => (by cases h), ?_⟩, rfl⟩
  rintro ⟨j, hj, _⟩
  cases hj
theorem HasL.put {o : Option Tr} {T T' : List Nat} {j : Nat} (h : HasL o T) (hj : j < 64) (hT : ∀ x, x ∈ T → x < 64) (hn : j ∉ T) (hl : T.length < 40) (hm : ∀ x, x ∈ T' ↔ x = j ∨ x ∈ T) (hl' : T'.length = T.length + 1) :
    ∃ o', mpOut (brOf o) (keyN j) (vOf j) = (brOf o', 0) ∧ HasL o' T' := by
  have hd := h.dr.nrm
  have hne : ∀ x, x ∈ T → keyN x ≠ keyN j := fun x hx e => hn (by
    have := congrArg Fin.val (keyN_inj ⟨x, hT x hx⟩ ⟨j, hj⟩ e)
    dsimp only at this
    rw [← this]; exact hx)
  have hno : ∀ v, ¬ HasO (nrmO o) (keyN j) v := fun v hv => by
    obtain ⟨x, hx, e, _⟩ := (h.has _ _).1 (hasO_nrm.1 hv)
    exact hne x hx e.symm
  have hlt : lvO (nrmO o) < 40 := by rw [lvO_nrm, h.len]; exact hl
  refine ⟨_, mp_room h.dr (by rw [h.len]; exact hl) hj (vOf_size hj), put_one hd hlt hj (vOf_size hj), fun k v => ?_, ?_⟩
  · rw [put_hasO hd hj, hasO_nrm, h.has]
    constructor
    · rintro (⟨rfl, rfl⟩ | ⟨_, x, hx, rfl, rfl⟩)
      · exact ⟨j, (hm j).2 (.inl rfl), rfl, rfl⟩
      · exact ⟨x, (hm x).2 (.inr hx), rfl, rfl⟩
    · rintro ⟨x, hx, rfl, rfl⟩
      rcases (hm x).1 hx with rfl | hx2
      · exact .inl ⟨rfl, rfl⟩
      · exact .inr ⟨hne x hx2, x, hx2, rfl, rfl⟩
  · rw [put_grow hd hj hno, lvO_nrm, h.len, hl']
theorem HasL.root {o o' : Option Tr} {T : List Nat} (h : HasL o T) (h' : HasL o' T) : rootR o = rootR o' := same_root h.dr h'.dr (fun k v => by rw [h.has, h'.has])
theorem HasL.get {o : Option Tr} {T : List Nat} {j : Nat} (h : HasL o T) (hj : j < 64) (hm : j ∈ T) : mgOut (brOf o) (keyN j) = .tuple #[.string (vOf j), .int .i64 0] := mg_has h.dr hj ((h.has _ _).2 ⟨j, hm, rfl, rfl⟩)
theorem dr_mapB {o : Option Tr} (h : DrM o) : mapB (brOf o) = true := by
  have := mapB_V (brOf o)
  rw [h.map] at this
  simpa using this
def chB : ByteArray := ⟨#[99, 104, 97, 110, 103, 101, 100]⟩
/-- A key of the list is put anew. -/
theorem HasL.change {o : Option Tr} {T : List Nat} {j : Nat} (h : HasL o T) (hj : j < 64) (hl : T.length < 40) :
    ∃ o', mpOut (brOf o) (keyN j) chB = (brOf o', 0) ∧ DrM o' ∧ mgOut (brOf o') (keyN j) = .tuple #[.string chB, .int .i64 0] := by
  have hd := h.dr.nrm
  have hlt : lvO (nrmO o) < 40 := by rw [lvO_nrm, h.len]; exact hl
  have h60 : chB.size ≤ 60 := by decide
  refine ⟨_, mp_room h.dr (by rw [h.len]; exact hl) hj h60, put_one hd hlt hj h60, mg_has (put_one hd hlt hj h60) hj ((put_hasO hd hj _ _ _).2 (.inl ⟨rfl, rfl⟩))⟩
/-- What a map lists: as many as it has, the keys right, their hashes rising. -/
theorem HasL.list {o : Option Tr} {T : List Nat} (h : HasL o T) : ∃ cs, mlOut (brOf o) = (cs, 0) ∧ cs.length = T.length ∧ (∀ i, i < cs.length → keyOut (cs.getD i default).ky = .tuple #[.string (kh (cs.getD i default).ky), .int .i64 0] ∧ (cs.getD i default).ky.size ≤ 24) ∧
    ∀ i, 1 ≤ i → i < cs.length → Op.bytesLess (kh (cs.getD (i - 1) default).ky).toList (kh (cs.getD i default).ky).toList = true := by
  have hd := h.dr.nrm
  have hl : lvO (nrmO o) = T.length := by rw [lvO_nrm, h.len]
  unfold mlOut
  rw [h.dr.map]
  refine ⟨_, rfl, ?_⟩
  cases ho : nrmO o with
  | none =>
    rw [ho] at hl
    refine ⟨hl, fun i hi => ?_, fun i _ hi => ?_⟩
    · exact absurd hi (Nat.not_lt_zero _)
    · exact absurd hi (Nat.not_lt_zero _)
  | some t =>
    rw [ho] at hl hd
    have hr := lvs_rise t 0 hd.ok hd.ri hd.sp.1
    have hk := mem_ok t hd.ok
    have hky : ∀ i, (hi : i < t.lvs.length) → (t.cms.getD i default).ky = (t.lvs[i]).1 := fun i hi => by
      rw [Tr.cms, List.getD_eq_getElem?_getD, List.getElem?_map, List.getElem?_eq_getElem hi]
      rfl
    have hlen : t.cms.length = t.lvs.length := List.length_map _
    have hcm : cmsO (some t) = t.cms := rfl
    rw [hcm]
    refine ⟨by rw [cms_len]; exact hl, fun i hi => ?_, fun i h1 hi => ?_⟩
    · rw [hky i (by omega)]
      have h2 := hk _ (List.getElem_mem (show i < t.lvs.length by omega))
      refine ⟨?_, (okK_iff.1 h2).2⟩
      unfold keyOut
      rw [if_pos (tx_key h2)]
    · rw [hky i (by omega), hky (i - 1) (by omega)]
      exact List.pairwise_iff_getElem.1 hr (i - 1) i (by omega) (by omega) (by omega)
end Go.Proofs.YtkcpdjeemdlgcaaDoor.Sha
namespace Go.Proofs.YtkcpdjeemdlgcaaDoor.Sha
open Go.ChangeShapes Go.WideShapes Go.ChangeAt Go.RowKit Go.Shelf
set_option linter.unusedVariables false
set_option linter.unusedSimpArgs false

/-- No operation defers. -/
def noDefer (ops : Array Oper) : Bool := ops.all fun o => match o.op with | .defer _ => false | _ => true
theorem noDefer_spec {ops : Array Oper} (h : noDefer ops = true) {i : Nat} {o : Oper} (ho : ops[i]? = some o) : ∀ c, o.op ≠ .defer c := by
  intro c e
  have hm := Array.mem_of_getElem? ho
  have := (Array.all_eq_true_iff_forall_mem.1 h) o hm
  rw [e] at this
  cases this
/-- A region that draws its order, and no operation of which defers, goes in a round as it goes without one. -/
theorem wpAnyIn_round {F : Fence} {n : Nat} {P : Program} {md : Region.Mode} {ops : Array Oper} {Q : Exit → Act → World → Prop} {l : Nat} (hF : F.round = none) (hd : noDefer ops = true) :
    ∀ (fuel : Nat) (listed : Array Bool) (a : Act) (w : World), wpAnyIn F n P md ops Q fuel listed a w → wpAnyIn (F.inRound l) n P md ops Q fuel listed a w := by
  intro fuel
  induction fuel with
  | zero => intro listed a w h; exact h
  | succ fuel ih =>
    intro listed a w h
    refine ⟨h.1, fun i hi => ?_⟩
    have h3 := wpOpIn_mono (fun a w hh => ih _ a w hh) (h.2 i hi)
    unfold wpOpIn at h3 ⊢
    cases ho : ops[i]? with
    | none => simpa [ho] using h3
    | some o =>
      simp only [ho] at h3 ⊢
      by_cases hw : Region.wanted o (yielded ops a.tmps) = true
      · simp only [hw, if_true] at h3 ⊢
        unfold Oper.wpIn at h3 ⊢
        refine ⟨h3.1, ?_⟩
        have h4 := h3.2
        rw [Oper.semAt_eq _ _ _ (noDefer_spec hd ho)] at h4 ⊢
        generalize (execOp a.eval o).run P w = r at *
        cases r with
        | ok x w' => cases x <;> exact h4
        | halt x w' => cases x <;> exact h4
      · simp only [hw, Bool.false_eq_true, if_false] at h3 ⊢
        exact h3
end Go.Proofs.YtkcpdjeemdlgcaaDoor.Sha
namespace Go.Proofs.YtkcpdjeemdlgcaaDoor.Sha
open Go.ChangeShapes Go.WideShapes Go.ChangeAt Go.RowKit Go.Shelf
set_option linter.unusedVariables false
set_option linter.unusedSimpArgs false
attribute [local go_sem] Oper.semAt_some

/-- The command that puts a leaf. -/
def lfCm {w0 : World} {n₀ : Nat} (x : LfA w0 n₀) : Cm := ⟨1, 0, 0, x.1.2.1, x.1.2.2⟩
theorem ptr_lo {w : World} {S : Nat → Prop} {pv : Option Addr} {o : Option Tr} (h : PtrM w S pv o) (ho : OkO o) : ∃ T : Option (LT w w.heap.size), IsLO w pv T ∧ (LO.list T).map lfCm = cmsO o := by
  cases o with
  | none => exact ⟨none, h, rfl⟩
  | some t =>
    obtain ⟨p, h1, h2⟩ := h
    obtain ⟨T, h3, h4⟩ := lt_of_nd h2 ho
    refine ⟨some T, ⟨p, h1, h3⟩, ?_⟩
    show T.list.map lfCm = t.cms
    rw [Tr.cms, ← h4, List.map_map]
    rfl
theorem stepIn_append_row {F : Fence} {nF : Nat} {P : Program} {w : World} {ops : Array Oper} {o : Oper} {a : Act} {K : Act → World → Prop} {Q : Exit → Act → World → Prop} {E : Prop} (hgd : o.guard = none) (s x : Operand) (t : TypeId)
    (ho : o.op = .call { callee := .builtin .append, args := #[s, x], argTypes := #[t, t] })
    (base : Nat) (e : TypeId) (i : TypeInfo) (z : Value) (size bytes : Nat) (ht : P.underlying t = some (.slice e)) (hi : P.info? e = some i) (hz : i.zero = some z) (hsize : i.size = size) (hby : i.bytes = bytes) (hzs : z.cells.size = size) (hsz : 0 < size)
    (v : Value) (n : Nat) (xs : List Value) (hs : a.eval s = v) (hown : w.ownsRow base e size v n xs) (xv : Value) (m : Nat) (news : List Value) (hx : a.eval x = xv) (hR : Rw w xv m news) (hl : news.length = m * size) (h1 : ∀ u ∈ news, u.oneCell' = true) (h63 : n + m ≤ maxLen) (hb : (n + m) * bytes ≤ 140737488355328) (hbase : base ≤ w.heap.size)
    (h : ∀ a' c' w', w'.ownsRow base e size (.slice a' (n + m) c') (n + m) (xs ++ news) → w.grownBy w' v.ownBlock → ((Value.slice a' (n + m) c').ownBlock = v.ownBlock ∨ (Value.slice a' (n + m) c').ownBlock = some w.heap.size) → K (a.put o.dst (.slice a' (n + m) c')) w') :
    if Region.wanted o (yielded ops a.tmps) = true then Oper.wpIn F nF P o a w K Q else E := by
  have hw : Region.wanted o (yielded ops a.tmps) = true := by simp [Region.wanted, hgd]
  rw [if_pos hw]
  obtain ⟨a', c', w', hr, h2, h3, h4⟩ := run_append_row (P := P) w base t o.type e i z size bytes ht hi hz hsize hby hzs hsz v n xs hown xv m news hR hl h1 h63 hb hbase
  unfold Oper.wpIn
  refine ⟨?_, ?_⟩
  · simp [Oper.about, ho, resolve, Target.leads, Sem.run_pure]
  · rw [Oper.semAt_plain F _ _ (by rw [ho]; intro c hc'; cases hc')]
    simp [execOp, ho, resolve, invoke, builtin, hs, hx, hr, Result.andThen]
    exact h a' c' w' h2 h3 h4
set_option maxRecDepth 100000 in
set_option maxHeartbeats 4000000 in
theorem implMapList_any (k v : ByteArray) (a : Int) (ks : List Br) (S : Nat → Prop) (kv : Value) (w : World) (hB : Brs S w kv ks) (hk : k.size ≤ maxLen) (hv : v.size ≤ maxLen) (ht : Tab w) :
    Calls Tryd.prog 11 #[.agg #[.string k, .string v, .int .i64 a, kv]] w fun e w' => ∃ u, e = .returned (.tuple #[u, .int .i64 (mlOut (.mk k v a ks)).2]) ∧ OwnC w.heap.size w' u (mlOut (.mk k v a ks)).1 ∧ Below w.heap.size w w' := by
  refine (callsIn_wide (n := 4)).1 ?_
  obtain ⟨sa, cap, rfl, hcap, hcm⟩ := hB.shape
  have hdd : ∀ k : Nat, (Fence.wide.depth.isSome = true → 1 ≤ k) := fun k h => by cases h
  have B0 := (Below.refl w.heap.size w).alloc (Nat.le_refl _) (.cells #[.string k, .string v, .int .i64 a, .slice sa ks.length cap] 27)
  have HR := (callsIn_wide (n := 3)).2 (readMap_any k v a ks S _ _ (hB.blw B0) hk hv (ht.below B0))
  have HMB := mapB_V (.mk k v a ks)
  have HBR := fun o => mapV_br (b := .mk k v a ks) (o := o)
  have HSE := fun o => mapV_sep (b := .mk k v a ks) (o := o)
  have hO : mlOut (.mk k v a ks) = match mapV (.mk k v a ks) with | none => ([], 1) | some o => (cmsO o, 0) := rfl
  unfold ReadR at HR
  rw [HMB] at HR
  rw [hO]
  clear hB hk hv ht hO HMB
  obtain ⟨i0, hi, hz0, hz1, hz2⟩ := info_parts infoCm
  cases hmv : mapV (.mk k v a ks) with
  | none =>
    rw [hmv] at HR
    dsimp only [Option.isSome] at HR ⊢
    clear HBR HSE
    refine callsIn_of_wp_marks Tryd.func11 rfl trivial ?_ rfl
    simp only [Tryd.ntmps11, List.size_toArray, List.length_cons, List.length_nil, Nat.reduceAdd, Nat.reduceSub, Array.replicate_succ, Array.replicate_zero, List.push_toArray, List.append_toArray, List.nil_append, List.cons_append]
    gi_wp2_with (refine ⟨trivial, ?_⟩; (try refine ⟨hdd _, ?_⟩); gi_at_call 34; refine HR.mono ?_; clear HR; rintro e w2 ⟨pv, rfl, hb, rfl⟩)
    have hw := hb.size
    rw [World.size_alloc] at hw
    exact ⟨_, results_tmp2 rfl _ _ _, _, rfl, OwnC.nil _ _, B0.trans (hb.mono B0.size)⟩
  | some o =>
    have ho := (HBR o hmv).2
    have hs := HSE o hmv
    rw [hmv] at HR
    dsimp only [Option.isSome] at HR ⊢
    clear HBR HSE
    refine callsIn_of_wp_marks Tryd.func11 rfl trivial ?_ rfl
    simp only [Tryd.ntmps11, List.size_toArray, List.length_cons, List.length_nil, Nat.reduceAdd, Nat.reduceSub, Array.replicate_succ, Array.replicate_zero, List.push_toArray, List.append_toArray, List.nil_append, List.cons_append]
    gi_wp2_with (first
      | (refine ⟨trivial, ?_⟩; (try refine ⟨hdd _, ?_⟩); gi_at_call 38; refine (leaves_in 3 _ _).mono ?_; rintro e w' ⟨rfl, rfl⟩)
      | (refine ⟨trivial, ?_⟩; (try refine ⟨hdd _, ?_⟩); gi_at_call 34; refine HR.mono ?_; clear HR; rintro e w2 ⟨pv, rfl, hb, hpm⟩))
    obtain ⟨T, hT, hTl⟩ := ptr_lo hpm ho
    have hN : (LO.list T).length ≤ 40 := by have h1 := cap_le o hs; rw [← hTl, List.length_map] at h1; exact h1
    have bL := Boxed.new w2 33 (.slice none 0 0)
    have bP := Boxed.new (w2.alloc (.cells #[.slice none 0 0] 33)) 54 (.pointer pv)
    rw [World.size_alloc] at bP
    have hB0 : Below w2.heap.size w2 ((w2.alloc (.cells #[.slice none 0 0] 33)).alloc (.cells #[.pointer pv] 54)) := ((Below.refl _ w2).alloc (Nat.le_refl _) _).alloc (by simp) _
    refine wpIn_rangeFunc_ownG rfl (by omega) (gf := 77) (lb := #[.pointer (some ⟨w2.heap.size + 1, 0, none⟩)]) rfl trivial (enters_of Tryd.func77 (by kernel_rfl) rfl)
      (leaves_stops 3 (w2.heap.size + 1) pv T _ (by simp) (by simp; omega) bP.cell (hT.below hB0)) belowK_t (belowK_b (by simp; omega)) (Below.refl _ _) (fun _ => rfl)
      (fun (pre : List (LfA w2 w2.heap.size)) W => (∃ v, Boxed W w2.heap.size 33 v ∧ W.ownsRow w2.heap.size 39 5 v pre.length (csC (pre.map lfCm)) ∧ True) ∧ Below w2.heap.size w2 W)
      (fun _ _ _ => False)
      (OwnFrom.and (Own.from (holdsRow_own w2.heap.size w2.heap.size 33 39 5 (fun (pre : List (LfA w2 w2.heap.size)) => pre.length) (fun pre => csC (pre.map lfCm)) (fun _ _ => True)) _) (ownFrom_below (Nat.le_refl _) (by simp; omega)))
      (fun _ _ _ _ _ hs _ _ => hs)
      ⟨⟨_, bL.alloc _, World.ownsRow_nil _ _ _ _, trivial⟩, hB0⟩
      (fun (x : LfA w2 w2.heap.size) => { tmps := #[.agg #[.string k, .string v, .int .i64 a, .slice sa ks.length cap], .pointer (some ⟨w.heap.size, 0, none⟩), .slice none 0 0, .int .i64 0, .pointer pv, .bool true, .pointer (some ⟨w2.heap.size, 0, none⟩), .pointer (some ⟨x.1.1, 0, none⟩), .tuple #[.pointer pv, .bool true], .agg #[.string k, .string v, .int .i64 a, .slice sa ks.length cap], .tuple #[.pointer pv, .bool true], .pointer pv, .bool true, .bool true, .bool false, .pointer pv, .func (.func 77) #[] #[.pointer (some ⟨w2.heap.size + 1, 0, none⟩)], .pointer (some ⟨x.1.1, 0, none⟩), undef, undef, undef, undef, undef, undef, undef, undef, undef, undef, undef, undef, undef], defers := [] }) ?assign ?body ?done ?stop
    case assign =>
      intro l x W K hK
      gi_wp2
      exact hK
    case body =>
      rintro l pre x W ⟨⟨v, hv, hrow, _⟩, hB⟩ hlt
      have hc := hv.cell
      have hx0 := x.2.1
      have hx1 := (hB.cell (p := ⟨x.1.1, 0, none⟩) hx0).trans x.2.2.1
      have hx2 := (hB.cell (p := ⟨x.1.1, 1, none⟩) hx0).trans x.2.2.2.1
      have hn : pre.length + 1 ≤ 1000 := by omega
      have hWs := hB.size
      obtain ⟨⟨xb, xk, xv⟩, hxx⟩ := x
      dsimp only at hx1 hx2 hx0 ⊢
      have hvd : Boxed W.drew w2.heap.size 33 v := hv
      have hrowd : W.drew.ownsRow w2.heap.size 39 5 v pre.length (csC (pre.map lfCm)) := own_kept (T := fun _ => False) hrow (Touch.refl _ W).drew (fun _ _ h => h)
      have hO4 : Hid ((W.drew.alloc (.cells #[.int .i64 1, .int .i64 0, .int .i64 0, .string xk, .string xv] 39)).ownsRow w2.heap.size 39 5 v pre.length (csC (pre.map lfCm))) := hide (hrowd.alloc _)
      have HRW := hide (cm_rw W.drew ⟨1, 0, 0, xk, xv⟩ 39)
      have H1C : Hid (∀ u ∈ cmC ⟨1, 0, 0, xk, xv⟩, u.oneCell' = true) := hide (by simp [cmC, Value.oneCell'])
      have hBs : w2.heap.size ≤ (W.drew.alloc (.cells #[.int .i64 1, .int .i64 0, .int .i64 0, .string xk, .string xv] 39)).heap.size := by rw [World.size_alloc]; exact Nat.le_trans hWs (Nat.le_succ _)
      have HFIN : Hid (∀ (g6 c6 : Nat) (w6 : World), w6.ownsRow w2.heap.size 39 5 (.slice (some ⟨g6, 0, none⟩) (pre.length + 1) c6) (pre.length + 1) (csC (pre.map lfCm) ++ cmC ⟨1, 0, 0, xk, xv⟩) → (W.drew.alloc (.cells #[.int .i64 1, .int .i64 0, .int .i64 0, .string xk, .string xv] 39)).grownBy w6 v.ownBlock →
          (w6.cell? ⟨w2.heap.size, 0, none⟩ = some v ∧ w6.frozen? ⟨w2.heap.size, 0, none⟩ = false) ∧ KeepsOthers W (w6.setCell ⟨w2.heap.size, 0, none⟩ (.slice (some ⟨g6, 0, none⟩) (pre.length + 1) c6)) ∧ Below w2.heap.size W (w6.setCell ⟨w2.heap.size, 0, none⟩ (.slice (some ⟨g6, 0, none⟩) (pre.length + 1) c6)) ∧
          Boxed (w6.setCell ⟨w2.heap.size, 0, none⟩ (.slice (some ⟨g6, 0, none⟩) (pre.length + 1) c6)) w2.heap.size 33 (.slice (some ⟨g6, 0, none⟩) (pre.length + 1) c6) ∧
          (w6.setCell ⟨w2.heap.size, 0, none⟩ (.slice (some ⟨g6, 0, none⟩) (pre.length + 1) c6)).ownsRow w2.heap.size 39 5 (.slice (some ⟨g6, 0, none⟩) (pre.length + 1) c6) (pre ++ [(⟨(xb, xk, xv), hxx⟩ : LfA w2 w2.heap.size)]).length (csC ((pre ++ [(⟨(xb, xk, xv), hxx⟩ : LfA w2 w2.heap.size)]).map lfCm))) := hide (fun g6 c6 w6 h1 h2 => by
        obtain ⟨hv1, hv2, hr2, hk2, hb2⟩ := hvd.appended (by decide) hrowd hWs (Nat.le_refl _) h1 h2
        refine ⟨⟨hv1.cell, hv1.frozen⟩, (KeepsOthers.drew W).trans hk2, ((Below.refl _ W).drew).trans hb2, hv2, ?_⟩
        rw [List.map_append, csC_app, List.length_append]
        exact hr2)
      have hcA : (W.alloc (.cells #[.int .i64 1, .int .i64 0, .int .i64 0, .string xk, .string xv] 39)).cell? ⟨w2.heap.size, 0, none⟩ = some v := (hv.alloc _).cell
      clear hvd hrowd hrow hv
      gi_wp2
      refine wpIn_region_any (by kernel_rfl) ?_
      refine wpAnyIn_round (F := Fence.wide) rfl (by kernel_rfl) _ _ _ _ ?_
      change wpAnyIn _ _ _ _ _ _ _ _ _ (World.drew _)
      refine wpAnyIn_take (i := 1) (v := .pointer (some ⟨xb, 0, none⟩)) rfl rfl (by kernel_rfl) (by kernel_rfl) (by kernel_rfl) (fun _ _ _ h => h) ⟨Or.inl ⟨by rfl, ?_⟩, fun _ => rfl⟩ ?_
      · intro w
        go_simp
      refine wpAnyIn_take (i := 5) (v := .pointer (some ⟨xb, 0, none⟩)) rfl rfl (by kernel_rfl) (by kernel_rfl) (by kernel_rfl) (fun _ _ _ h => h) ⟨Or.inl ⟨by rfl, ?_⟩, fun _ => rfl⟩ ?_
      · intro w
        go_simp
      refine wpAnyIn_take (i := 2) (v := .pointer (some ⟨xb, 0, none⟩)) rfl rfl (by kernel_rfl) (by kernel_rfl) (by kernel_rfl) (fun _ _ _ h => h) ⟨Or.inl ⟨by rfl, ?_⟩, fun _ => rfl⟩ ?_
      · intro w
        go_simp
      refine wpAnyIn_take (i := 6) (v := .pointer (some ⟨xb, 0, none⟩)) rfl rfl (by kernel_rfl) (by kernel_rfl) (by kernel_rfl) (fun _ _ _ h => h) ⟨Or.inl ⟨by rfl, ?_⟩, fun _ => rfl⟩ ?_
      · intro w
        go_simp
      refine wpAnyIn_take (i := 3) (v := .pointer (some ⟨xb, 0, none⟩)) rfl rfl (by kernel_rfl) (by kernel_rfl) (by kernel_rfl) (fun _ _ _ h => h) ⟨Or.inl ⟨by rfl, ?_⟩, fun _ => rfl⟩ ?_
      · intro w
        go_simp
      refine wpAnyIn_take (i := 7) (v := .pointer (some ⟨xb, 1, none⟩)) rfl rfl (by kernel_rfl) (by kernel_rfl) (by kernel_rfl) (fun _ _ _ h => h) ⟨Or.inl ⟨by rfl, ?_⟩, fun _ => rfl⟩ ?_
      · intro w
        go_simp
      refine wpAnyIn_ready (rs := [0, 4, 8]) (by kernel_rfl) (by simp) ?_
      refine AllReadyIn.cons rfl (fun K hK => ?_) ?_
      · go_simp
        refine hK _ _ ?_
        clear hK K
        refine wpAnyIn_ready (rs := [4, 8]) (by kernel_rfl) (by simp) ?_
        refine AllReadyIn.cons rfl (fun K hK => ?_) ?_
        · go_simp
          refine hK _ _ ?_
          clear hK K
          refine wpAnyIn_ready (rs := [8]) (by kernel_rfl) (by simp) ?_
          refine AllReadyIn.cons rfl (fun K hK => ?_) AllReadyIn.nil
          go_simp
          refine hK _ _ ?_
          clear hK K
          refine wpAnyIn_take (i := 9) (v := .agg #[.int .i64 1, .int .i64 0, .int .i64 0, .string xk, .string xv]) rfl rfl (by kernel_rfl) (by kernel_rfl) (by kernel_rfl) (fun _ _ _ h => h) ⟨Or.inl ⟨by rfl, ?_⟩, fun _ => rfl⟩ ?_
          · intro w
            go_simp
          refine wpAnyIn_ready (rs := [10]) (by kernel_rfl) (by simp) ?_
          refine AllReadyIn.cons rfl (fun K hK => ?_) AllReadyIn.nil
          go_simp
          refine hK _ _ ?_
          clear hK K
          refine wpAnyIn_ready (rs := [11]) (by kernel_rfl) (by simp) ?_
          refine AllReadyIn.cons rfl (fun K hK => ?_) AllReadyIn.nil
          refine stepIn_append_row rfl _ _ _ rfl w2.heap.size 39 i0 _ 5 56 Tryd.underlying33 hi hz0 hz1 hz2 rfl (by omega) v pre.length (csC (pre.map lfCm)) rfl (unhide hO4) _ 1 (cmC ⟨1, 0, 0, xk, xv⟩) rfl (unhide HRW) rfl (unhide H1C) (by unfold maxLen; omega) (by omega) hBs ?_
          intro a6 c6 w6 hown6 hgrow6 _
          obtain ⟨g6, c6', he6⟩ := ownsRow_succ hown6
          cases he6
          obtain ⟨⟨hc6, hf6⟩, hR6⟩ := unhide HFIN _ _ _ hown6 hgrow6
          have R6 := hide hR6
          clear hown6 hgrow6 hR6
          refine hK _ _ ?_
          clear hK K
          refine wpAnyIn_ready (rs := [12]) (by kernel_rfl) (by simp) ?_
          refine AllReadyIn.cons rfl (fun K hK => ?_) AllReadyIn.nil
          go_simp
          refine hK _ _ ?_
          clear hK K
          refine wpAnyIn_done (by kernel_rfl) ?_ _
          exact ⟨(unhide R6).1.from _, (unhide R6).2.1, ⟨_, (unhide R6).2.2.1, (unhide R6).2.2.2, trivial⟩, hB.trans (unhide R6).2.1⟩
        refine AllReadyIn.cons rfl (fun K hK => ?_) AllReadyIn.nil
        go_simp
        refine hK _ _ ?_
        clear hK K
        refine wpAnyIn_ready (rs := [4]) (by kernel_rfl) (by simp) ?_
        refine AllReadyIn.cons rfl (fun K hK => ?_) AllReadyIn.nil
        go_simp
        refine hK _ _ ?_
        clear hK K
        refine wpAnyIn_take (i := 9) (v := .agg #[.int .i64 1, .int .i64 0, .int .i64 0, .string xk, .string xv]) rfl rfl (by kernel_rfl) (by kernel_rfl) (by kernel_rfl) (fun _ _ _ h => h) ⟨Or.inl ⟨by rfl, ?_⟩, fun _ => rfl⟩ ?_
        · intro w
          go_simp
        refine wpAnyIn_ready (rs := [10]) (by kernel_rfl) (by simp) ?_
        refine AllReadyIn.cons rfl (fun K hK => ?_) AllReadyIn.nil
        go_simp
        refine hK _ _ ?_
        clear hK K
        refine wpAnyIn_ready (rs := [11]) (by kernel_rfl) (by simp) ?_
        refine AllReadyIn.cons rfl (fun K hK => ?_) AllReadyIn.nil
        refine stepIn_append_row rfl _ _ _ rfl w2.heap.size 39 i0 _ 5 56 Tryd.underlying33 hi hz0 hz1 hz2 rfl (by omega) v pre.length (csC (pre.map lfCm)) rfl (unhide hO4) _ 1 (cmC ⟨1, 0, 0, xk, xv⟩) rfl (unhide HRW) rfl (unhide H1C) (by unfold maxLen; omega) (by omega) hBs ?_
        intro a6 c6 w6 hown6 hgrow6 _
        obtain ⟨g6, c6', he6⟩ := ownsRow_succ hown6
        cases he6
        obtain ⟨⟨hc6, hf6⟩, hR6⟩ := unhide HFIN _ _ _ hown6 hgrow6
        have R6 := hide hR6
        clear hown6 hgrow6 hR6
        refine hK _ _ ?_
        clear hK K
        refine wpAnyIn_ready (rs := [12]) (by kernel_rfl) (by simp) ?_
        refine AllReadyIn.cons rfl (fun K hK => ?_) AllReadyIn.nil
        go_simp
        refine hK _ _ ?_
        clear hK K
        refine wpAnyIn_done (by kernel_rfl) ?_ _
        exact ⟨(unhide R6).1.from _, (unhide R6).2.1, ⟨_, (unhide R6).2.2.1, (unhide R6).2.2.2, trivial⟩, hB.trans (unhide R6).2.1⟩
      refine AllReadyIn.cons rfl (fun K hK => ?_) ?_
      · go_simp
        refine hK _ _ ?_
        clear hK K
        refine wpAnyIn_ready (rs := [0, 8]) (by kernel_rfl) (by simp) ?_
        refine AllReadyIn.cons rfl (fun K hK => ?_) ?_
        · go_simp
          refine hK _ _ ?_
          clear hK K
          refine wpAnyIn_ready (rs := [8]) (by kernel_rfl) (by simp) ?_
          refine AllReadyIn.cons rfl (fun K hK => ?_) AllReadyIn.nil
          go_simp
          refine hK _ _ ?_
          clear hK K
          refine wpAnyIn_take (i := 9) (v := .agg #[.int .i64 1, .int .i64 0, .int .i64 0, .string xk, .string xv]) rfl rfl (by kernel_rfl) (by kernel_rfl) (by kernel_rfl) (fun _ _ _ h => h) ⟨Or.inl ⟨by rfl, ?_⟩, fun _ => rfl⟩ ?_
          · intro w
            go_simp
          refine wpAnyIn_ready (rs := [10]) (by kernel_rfl) (by simp) ?_
          refine AllReadyIn.cons rfl (fun K hK => ?_) AllReadyIn.nil
          go_simp
          refine hK _ _ ?_
          clear hK K
          refine wpAnyIn_ready (rs := [11]) (by kernel_rfl) (by simp) ?_
          refine AllReadyIn.cons rfl (fun K hK => ?_) AllReadyIn.nil
          refine stepIn_append_row rfl _ _ _ rfl w2.heap.size 39 i0 _ 5 56 Tryd.underlying33 hi hz0 hz1 hz2 rfl (by omega) v pre.length (csC (pre.map lfCm)) rfl (unhide hO4) _ 1 (cmC ⟨1, 0, 0, xk, xv⟩) rfl (unhide HRW) rfl (unhide H1C) (by unfold maxLen; omega) (by omega) hBs ?_
          intro a6 c6 w6 hown6 hgrow6 _
          obtain ⟨g6, c6', he6⟩ := ownsRow_succ hown6
          cases he6
          obtain ⟨⟨hc6, hf6⟩, hR6⟩ := unhide HFIN _ _ _ hown6 hgrow6
          have R6 := hide hR6
          clear hown6 hgrow6 hR6
          refine hK _ _ ?_
          clear hK K
          refine wpAnyIn_ready (rs := [12]) (by kernel_rfl) (by simp) ?_
          refine AllReadyIn.cons rfl (fun K hK => ?_) AllReadyIn.nil
          go_simp
          refine hK _ _ ?_
          clear hK K
          refine wpAnyIn_done (by kernel_rfl) ?_ _
          exact ⟨(unhide R6).1.from _, (unhide R6).2.1, ⟨_, (unhide R6).2.2.1, (unhide R6).2.2.2, trivial⟩, hB.trans (unhide R6).2.1⟩
        refine AllReadyIn.cons rfl (fun K hK => ?_) AllReadyIn.nil
        go_simp
        refine hK _ _ ?_
        clear hK K
        refine wpAnyIn_take (i := 9) (v := .agg #[.int .i64 1, .int .i64 0, .int .i64 0, .string xk, .string xv]) rfl rfl (by kernel_rfl) (by kernel_rfl) (by kernel_rfl) (fun _ _ _ h => h) ⟨Or.inl ⟨by rfl, ?_⟩, fun _ => rfl⟩ ?_
        · intro w
          go_simp
        refine wpAnyIn_ready (rs := [0, 10]) (by kernel_rfl) (by simp) ?_
        refine AllReadyIn.cons rfl (fun K hK => ?_) ?_
        · go_simp
          refine hK _ _ ?_
          clear hK K
          refine wpAnyIn_ready (rs := [10]) (by kernel_rfl) (by simp) ?_
          refine AllReadyIn.cons rfl (fun K hK => ?_) AllReadyIn.nil
          go_simp
          refine hK _ _ ?_
          clear hK K
          refine wpAnyIn_ready (rs := [11]) (by kernel_rfl) (by simp) ?_
          refine AllReadyIn.cons rfl (fun K hK => ?_) AllReadyIn.nil
          refine stepIn_append_row rfl _ _ _ rfl w2.heap.size 39 i0 _ 5 56 Tryd.underlying33 hi hz0 hz1 hz2 rfl (by omega) v pre.length (csC (pre.map lfCm)) rfl (unhide hO4) _ 1 (cmC ⟨1, 0, 0, xk, xv⟩) rfl (unhide HRW) rfl (unhide H1C) (by unfold maxLen; omega) (by omega) hBs ?_
          intro a6 c6 w6 hown6 hgrow6 _
          obtain ⟨g6, c6', he6⟩ := ownsRow_succ hown6
          cases he6
          obtain ⟨⟨hc6, hf6⟩, hR6⟩ := unhide HFIN _ _ _ hown6 hgrow6
          have R6 := hide hR6
          clear hown6 hgrow6 hR6
          refine hK _ _ ?_
          clear hK K
          refine wpAnyIn_ready (rs := [12]) (by kernel_rfl) (by simp) ?_
          refine AllReadyIn.cons rfl (fun K hK => ?_) AllReadyIn.nil
          go_simp
          refine hK _ _ ?_
          clear hK K
          refine wpAnyIn_done (by kernel_rfl) ?_ _
          exact ⟨(unhide R6).1.from _, (unhide R6).2.1, ⟨_, (unhide R6).2.2.1, (unhide R6).2.2.2, trivial⟩, hB.trans (unhide R6).2.1⟩
        refine AllReadyIn.cons rfl (fun K hK => ?_) AllReadyIn.nil
        go_simp
        refine hK _ _ ?_
        clear hK K
        refine wpAnyIn_ready (rs := [0]) (by kernel_rfl) (by simp) ?_
        refine AllReadyIn.cons rfl (fun K hK => ?_) AllReadyIn.nil
        go_simp
        refine hK _ _ ?_
        clear hK K
        refine wpAnyIn_ready (rs := [11]) (by kernel_rfl) (by simp) ?_
        refine AllReadyIn.cons rfl (fun K hK => ?_) AllReadyIn.nil
        refine stepIn_append_row rfl _ _ _ rfl w2.heap.size 39 i0 _ 5 56 Tryd.underlying33 hi hz0 hz1 hz2 rfl (by omega) v pre.length (csC (pre.map lfCm)) rfl (unhide hO4) _ 1 (cmC ⟨1, 0, 0, xk, xv⟩) rfl (unhide HRW) rfl (unhide H1C) (by unfold maxLen; omega) (by omega) hBs ?_
        intro a6 c6 w6 hown6 hgrow6 _
        obtain ⟨g6, c6', he6⟩ := ownsRow_succ hown6
        cases he6
        obtain ⟨⟨hc6, hf6⟩, hR6⟩ := unhide HFIN _ _ _ hown6 hgrow6
        have R6 := hide hR6
        clear hown6 hgrow6 hR6
        refine hK _ _ ?_
        clear hK K
        refine wpAnyIn_ready (rs := [12]) (by kernel_rfl) (by simp) ?_
        refine AllReadyIn.cons rfl (fun K hK => ?_) AllReadyIn.nil
        go_simp
        refine hK _ _ ?_
        clear hK K
        refine wpAnyIn_done (by kernel_rfl) ?_ _
        exact ⟨(unhide R6).1.from _, (unhide R6).2.1, ⟨_, (unhide R6).2.2.1, (unhide R6).2.2.2, trivial⟩, hB.trans (unhide R6).2.1⟩
      refine AllReadyIn.cons rfl (fun K hK => ?_) AllReadyIn.nil
      go_simp
      refine hK _ _ ?_
      clear hK K
      refine wpAnyIn_ready (rs := [0, 4]) (by kernel_rfl) (by simp) ?_
      refine AllReadyIn.cons rfl (fun K hK => ?_) ?_
      · go_simp
        refine hK _ _ ?_
        clear hK K
        refine wpAnyIn_ready (rs := [4]) (by kernel_rfl) (by simp) ?_
        refine AllReadyIn.cons rfl (fun K hK => ?_) AllReadyIn.nil
        go_simp
        refine hK _ _ ?_
        clear hK K
        refine wpAnyIn_take (i := 9) (v := .agg #[.int .i64 1, .int .i64 0, .int .i64 0, .string xk, .string xv]) rfl rfl (by kernel_rfl) (by kernel_rfl) (by kernel_rfl) (fun _ _ _ h => h) ⟨Or.inl ⟨by rfl, ?_⟩, fun _ => rfl⟩ ?_
        · intro w
          go_simp
        refine wpAnyIn_ready (rs := [10]) (by kernel_rfl) (by simp) ?_
        refine AllReadyIn.cons rfl (fun K hK => ?_) AllReadyIn.nil
        go_simp
        refine hK _ _ ?_
        clear hK K
        refine wpAnyIn_ready (rs := [11]) (by kernel_rfl) (by simp) ?_
        refine AllReadyIn.cons rfl (fun K hK => ?_) AllReadyIn.nil
        refine stepIn_append_row rfl _ _ _ rfl w2.heap.size 39 i0 _ 5 56 Tryd.underlying33 hi hz0 hz1 hz2 rfl (by omega) v pre.length (csC (pre.map lfCm)) rfl (unhide hO4) _ 1 (cmC ⟨1, 0, 0, xk, xv⟩) rfl (unhide HRW) rfl (unhide H1C) (by unfold maxLen; omega) (by omega) hBs ?_
        intro a6 c6 w6 hown6 hgrow6 _
        obtain ⟨g6, c6', he6⟩ := ownsRow_succ hown6
        cases he6
        obtain ⟨⟨hc6, hf6⟩, hR6⟩ := unhide HFIN _ _ _ hown6 hgrow6
        have R6 := hide hR6
        clear hown6 hgrow6 hR6
        refine hK _ _ ?_
        clear hK K
        refine wpAnyIn_ready (rs := [12]) (by kernel_rfl) (by simp) ?_
        refine AllReadyIn.cons rfl (fun K hK => ?_) AllReadyIn.nil
        go_simp
        refine hK _ _ ?_
        clear hK K
        refine wpAnyIn_done (by kernel_rfl) ?_ _
        exact ⟨(unhide R6).1.from _, (unhide R6).2.1, ⟨_, (unhide R6).2.2.1, (unhide R6).2.2.2, trivial⟩, hB.trans (unhide R6).2.1⟩
      refine AllReadyIn.cons rfl (fun K hK => ?_) AllReadyIn.nil
      go_simp
      refine hK _ _ ?_
      clear hK K
      refine wpAnyIn_take (i := 9) (v := .agg #[.int .i64 1, .int .i64 0, .int .i64 0, .string xk, .string xv]) rfl rfl (by kernel_rfl) (by kernel_rfl) (by kernel_rfl) (fun _ _ _ h => h) ⟨Or.inl ⟨by rfl, ?_⟩, fun _ => rfl⟩ ?_
      · intro w
        go_simp
      refine wpAnyIn_ready (rs := [0, 10]) (by kernel_rfl) (by simp) ?_
      refine AllReadyIn.cons rfl (fun K hK => ?_) ?_
      · go_simp
        refine hK _ _ ?_
        clear hK K
        refine wpAnyIn_ready (rs := [10]) (by kernel_rfl) (by simp) ?_
        refine AllReadyIn.cons rfl (fun K hK => ?_) AllReadyIn.nil
        go_simp
        refine hK _ _ ?_
        clear hK K
        refine wpAnyIn_ready (rs := [11]) (by kernel_rfl) (by simp) ?_
        refine AllReadyIn.cons rfl (fun K hK => ?_) AllReadyIn.nil
        refine stepIn_append_row rfl _ _ _ rfl w2.heap.size 39 i0 _ 5 56 Tryd.underlying33 hi hz0 hz1 hz2 rfl (by omega) v pre.length (csC (pre.map lfCm)) rfl (unhide hO4) _ 1 (cmC ⟨1, 0, 0, xk, xv⟩) rfl (unhide HRW) rfl (unhide H1C) (by unfold maxLen; omega) (by omega) hBs ?_
        intro a6 c6 w6 hown6 hgrow6 _
        obtain ⟨g6, c6', he6⟩ := ownsRow_succ hown6
        cases he6
        obtain ⟨⟨hc6, hf6⟩, hR6⟩ := unhide HFIN _ _ _ hown6 hgrow6
        have R6 := hide hR6
        clear hown6 hgrow6 hR6
        refine hK _ _ ?_
        clear hK K
        refine wpAnyIn_ready (rs := [12]) (by kernel_rfl) (by simp) ?_
        refine AllReadyIn.cons rfl (fun K hK => ?_) AllReadyIn.nil
        go_simp
        refine hK _ _ ?_
        clear hK K
        refine wpAnyIn_done (by kernel_rfl) ?_ _
        exact ⟨(unhide R6).1.from _, (unhide R6).2.1, ⟨_, (unhide R6).2.2.1, (unhide R6).2.2.2, trivial⟩, hB.trans (unhide R6).2.1⟩
      refine AllReadyIn.cons rfl (fun K hK => ?_) AllReadyIn.nil
      go_simp
      refine hK _ _ ?_
      clear hK K
      refine wpAnyIn_ready (rs := [0]) (by kernel_rfl) (by simp) ?_
      refine AllReadyIn.cons rfl (fun K hK => ?_) AllReadyIn.nil
      go_simp
      refine hK _ _ ?_
      clear hK K
      refine wpAnyIn_ready (rs := [11]) (by kernel_rfl) (by simp) ?_
      refine AllReadyIn.cons rfl (fun K hK => ?_) AllReadyIn.nil
      refine stepIn_append_row rfl _ _ _ rfl w2.heap.size 39 i0 _ 5 56 Tryd.underlying33 hi hz0 hz1 hz2 rfl (by omega) v pre.length (csC (pre.map lfCm)) rfl (unhide hO4) _ 1 (cmC ⟨1, 0, 0, xk, xv⟩) rfl (unhide HRW) rfl (unhide H1C) (by unfold maxLen; omega) (by omega) hBs ?_
      intro a6 c6 w6 hown6 hgrow6 _
      obtain ⟨g6, c6', he6⟩ := ownsRow_succ hown6
      cases he6
      obtain ⟨⟨hc6, hf6⟩, hR6⟩ := unhide HFIN _ _ _ hown6 hgrow6
      have R6 := hide hR6
      clear hown6 hgrow6 hR6
      refine hK _ _ ?_
      clear hK K
      refine wpAnyIn_ready (rs := [12]) (by kernel_rfl) (by simp) ?_
      refine AllReadyIn.cons rfl (fun K hK => ?_) AllReadyIn.nil
      go_simp
      refine hK _ _ ?_
      clear hK K
      refine wpAnyIn_done (by kernel_rfl) ?_ _
      exact ⟨(unhide R6).1.from _, (unhide R6).2.1, ⟨_, (unhide R6).2.2.1, (unhide R6).2.2.2, trivial⟩, hB.trans (unhide R6).2.1⟩
    case done =>
      rintro D ys W hD rfl ⟨⟨v, hv, hrow, _⟩, hB⟩ hK
      have hc := hv.cell
      gi_wp2
      have B2 := B0.trans (hb.mono B0.size)
      have hz2' := B2.size
      have hO : OwnC w.heap.size W v (cmsO o) := by
        refine OwnC.down (B := w2.heap.size) ?_ hz2'
        unfold OwnC
        rw [← hTl, List.length_map]
        exact hrow
      have hD2 : w2.heap.size ≤ D := by simp at hD; omega
      refine ⟨by simp, .inl ⟨_, _, rfl, run_takeDeferred hK, ?_⟩⟩
      exact ⟨_, results_tmp2 rfl _ _ _, v, rfl, ownsRow_putObj hO _ hK rfl, (B2.trans (hB.mono hz2')).trans (belowK_b (w := w) (Nat.le_refl _) W D _ _ (by omega) hK rfl rfl)⟩
    case stop =>
      rintro D c pre W _ _ h _
      exact h.elim
end Go.Proofs.YtkcpdjeemdlgcaaDoor.Sha
namespace Go.Proofs.YtkcpdjeemdlgcaaDoor.Sha
open Go.ChangeShapes Go.WideShapes Go.ChangeAt Go.RowKit
set_option linter.unusedVariables false
set_option linter.unusedSimpArgs false

theorem range_two {x y : Int} {xs : List Int} (h0 : 0 ≤ x) (h1 : x ≤ 255) (h2 : 0 ≤ y) (h3 : y ≤ 255) (h : ∀ i, 0 ≤ xs.getD i 0 ∧ xs.getD i 0 ≤ 255) : ∀ i, 0 ≤ (x :: y :: xs).getD i 0 ∧ (x :: y :: xs).getD i 0 ≤ 255 := range_cons h0 h1 (range_cons h2 h3 h)
theorem l01Hash_two (x y : Int) (a b : ByteArray) (g cap : Nat) (w : World) (ha : a.size ≤ 60) (hb : b.size ≤ 60) (h : Bytes w (.slice (some ⟨g, 0, none⟩) (2 + a.size + b.size) cap) (x :: y :: (bytesI a ++ bytesI b))) :
    Calls Tryd.prog 58 #[.slice (some ⟨g, 0, none⟩) (2 + a.size + b.size) cap] w fun e w' => e = .returned (.string (hashV (x :: y :: (bytesI a ++ bytesI b)))) ∧ Below w.heap.size w w' := by
  have hl : (x :: y :: (bytesI a ++ bytesI b)).length = 2 + a.size + b.size := by simp [bytesI_len]; omega
  rw [hashV_yes (by omega)]
  rw [← hl] at h ⊢
  exact l01Hash_any _ _ _ w h (by omega)
set_option maxRecDepth 100000 in
set_option maxHeartbeats 1000000 in
theorem l07LeafHash_any (a b : ByteArray) (w : World) (ha : a.size ≤ 24) (hb : b.size ≤ 60) :
    Calls Tryd.prog 62 #[.string a, .string b] w fun e w' => e = .returned (.string (lfR a b)) ∧ Below w.heap.size w w' := by
  obtain ⟨i0, hi, hz0, hz1, hz2⟩ := info_parts info5
  have hq : IntKind.u8.wrap (a.size : Int) = (a.size : Int) := wraps_u8 _ (by omega) (by omega)
  have O0 : Hid ((w.alloc (.cells #[.int .u8 0, .int .u8 a.size] 5)).ownsRow w.heap.size 5 1 (.slice (some ⟨w.heap.size, 0, none⟩) 2 2) 2 [.int .u8 0, .int .u8 a.size]) := hide (own_lit (heap_new rfl) (Nat.le_refl _) rfl (by unfold maxLen; omega))
  have B0 := hide ((Below.refl w.heap.size w).alloc (Nat.le_refl _) (.cells #[.int .u8 0, .int .u8 a.size] 5))
  have HV : Hid (lfR a b = hashV (0 :: (a.size : Int) :: (bytesI a ++ bytesI b))) := rfl
  go_enter Tryd.func62, Tryd.ntmps62
  go_wp2_with (at_builtin; first
    | (refine wpList_append_str _ rfl _ _ _ _ rfl w.heap.size 5 i0 Tryd.underlying22 Tryd.underlying9 hi hz0 hz1 hz2 _ (2 + a.size) _ rfl (unhide O1) b rfl (by omega) (by omega) (by have := (unhide B1).size; omega) ?_; intro g2 cap2 w2 hown2 hgrow2 hat2; have O2 := hide hown2; have B2 := hide ((unhide B1).grown hgrow2 (by have := (unhide B1).size; omega) (fun r hr => ((unhide O1).lt r hr).1)); clear hown2 hgrow2 hat2)
    | (refine wpList_append_str _ rfl _ _ _ _ rfl w.heap.size 5 i0 Tryd.underlying22 Tryd.underlying9 hi hz0 hz1 hz2 _ 2 _ rfl (unhide O0) a rfl (by omega) (by omega) (by simp) ?_; intro g1 cap1 w1 hown1 hgrow1 hat1; have O1 := hide hown1; have B1 := hide ((unhide B0).grown hgrow1 (by simp) (fun r hr => ((unhide O0).lt r hr).1)); clear hown1 hgrow1 hat1))
  have hx : Bytes w2 (.slice (some ⟨g2, 0, none⟩) (2 + a.size + b.size) cap2) (0 :: (a.size : Int) :: (bytesI a ++ bytesI b)) := by
    have hl : (0 :: (a.size : Int) :: (bytesI a ++ bytesI b)).length = 2 + a.size + b.size := by simp [bytesI_len]; omega
    rw [← hl]
    refine OwnB.bytes (B := w.heap.size) ⟨?_, range_two (by omega) (by omega) (by omega) (by omega) (range_append (bytesI_range a) (bytesI_range b))⟩
    have h := unhide O2
    rw [strCells_eq, strCells_eq] at h
    rw [hl]
    simpa using h
  have HL := hide (l01Hash_two _ _ a b g2 cap2 w2 (by omega) (by omega) hx)
  clear hx
  refine (unhide HL).mono ?_
  rintro e w3 ⟨rfl, hb3⟩
  have K := hide ((unhide B2).trans (hb3.mono (unhide B2).size))
  clear hb3
  rw [← unhide HV]
  go_wp2_with fail
  go_ret
  exact ⟨rfl, unhide K⟩
set_option maxRecDepth 100000 in
set_option maxHeartbeats 1000000 in
theorem l07ForkHash_any (n : Nat) (a b : ByteArray) (w : World) (hn : n < 256) (ha : a.size = 32) (hb : b.size = 32) :
    Calls Tryd.prog 76 #[.int .i64 n, .string a, .string b] w fun e w' => e = .returned (.string (fkR n a b)) ∧ Below w.heap.size w w' := by
  obtain ⟨i0, hi, hz0, hz1, hz2⟩ := info_parts info5
  have hq : IntKind.u8.wrap (n : Int) = (n : Int) := wraps_u8 _ (by omega) (by omega)
  have O0 : Hid ((w.alloc (.cells #[.int .u8 1, .int .u8 n] 5)).ownsRow w.heap.size 5 1 (.slice (some ⟨w.heap.size, 0, none⟩) 2 2) 2 [.int .u8 1, .int .u8 n]) := hide (own_lit (heap_new rfl) (Nat.le_refl _) rfl (by unfold maxLen; omega))
  have B0 := hide ((Below.refl w.heap.size w).alloc (Nat.le_refl _) (.cells #[.int .u8 1, .int .u8 n] 5))
  have HV : Hid (fkR n a b = hashV (1 :: (n : Int) :: (bytesI a ++ bytesI b))) := rfl
  have ha2 : a.size ≤ 32 := by omega
  have hb2 : b.size ≤ 32 := by omega
  clear ha hb
  go_enter Tryd.func76, Tryd.ntmps76
  go_wp2_with (at_builtin; first
    | (refine wpList_append_str _ rfl _ _ _ _ rfl w.heap.size 5 i0 Tryd.underlying22 Tryd.underlying9 hi hz0 hz1 hz2 _ (2 + a.size) _ rfl (unhide O1) b rfl (by omega) (by omega) (by have := (unhide B1).size; omega) ?_; intro g2 cap2 w2 hown2 hgrow2 hat2; have O2 := hide hown2; have B2 := hide ((unhide B1).grown hgrow2 (by have := (unhide B1).size; omega) (fun r hr => ((unhide O1).lt r hr).1)); clear hown2 hgrow2 hat2)
    | (refine wpList_append_str _ rfl _ _ _ _ rfl w.heap.size 5 i0 Tryd.underlying22 Tryd.underlying9 hi hz0 hz1 hz2 _ 2 _ rfl (unhide O0) a rfl (by omega) (by omega) (by simp) ?_; intro g1 cap1 w1 hown1 hgrow1 hat1; have O1 := hide hown1; have B1 := hide ((unhide B0).grown hgrow1 (by simp) (fun r hr => ((unhide O0).lt r hr).1)); clear hown1 hgrow1 hat1))
  have hx : Bytes w2 (.slice (some ⟨g2, 0, none⟩) (2 + a.size + b.size) cap2) (1 :: (n : Int) :: (bytesI a ++ bytesI b)) := by
    have hl : (1 :: (n : Int) :: (bytesI a ++ bytesI b)).length = 2 + a.size + b.size := by simp [bytesI_len]; omega
    rw [← hl]
    refine OwnB.bytes (B := w.heap.size) ⟨?_, range_two (by omega) (by omega) (by omega) (by omega) (range_append (bytesI_range a) (bytesI_range b))⟩
    have h := unhide O2
    rw [strCells_eq, strCells_eq] at h
    rw [hl]
    simpa using h
  have HL := hide (l01Hash_two _ _ a b g2 cap2 w2 (by omega) (by omega) hx)
  clear hx
  refine (unhide HL).mono ?_
  rintro e w3 ⟨rfl, hb3⟩
  have K := hide ((unhide B2).trans (hb3.mono (unhide B2).size))
  clear hb3
  rw [← unhide HV]
  go_wp2_with fail
  go_ret
  exact ⟨rfl, unhide K⟩
set_option maxRecDepth 100000 in
set_option maxHeartbeats 4000000 in
theorem l07Root_any : ∀ (t : Tr), TrOK t → ∀ (S : Nat → Prop) (kv : Value) (w : World), Brs S w kv t.toBr.kids →
    Calls Tryd.prog 37 #[.agg #[.string t.toBr.key, .string t.toBr.val, .int .i64 t.toBr.at_, kv]] w fun e w' => e = .returned (.string (trR t)) ∧ Below w.heap.size w w' := by
  intro t
  induction t with
  | leaf k v =>
    intro hok S kv w hB
    obtain ⟨sa, cap, rfl, _, hcm⟩ := hB.shape
    have HNE := not_empty hok
    have hk := (okK_iff.1 hok.1).2
    have hv : v.size ≤ 60 := hok.2
    dsimp only [Tr.toBr, Br.key, Br.val, Br.at_, Br.kids] at HNE ⊢
    have B0 := hide ((Below.refl w.heap.size w).alloc (Nat.le_refl _) (.cells #[.string k, .string v, .int .i64 256, .slice sa 0 cap] 27))
    have X0 := hide (Blk.new w #[.string k, .string v, .int .i64 256, .slice sa 0 cap] 27 w.heap.size rfl)
    have HE := hide (fun wx => l07Empty_any k v 256 [] sa cap wx (by simp))
    have HLF := hide (fun wx => l07Leaf_any k v 256 sa 0 cap wx (by omega))
    rw [HNE] at HE
    simp only [List.length_nil] at HE
    rw [show decide (0 = 0) = true from rfl] at HLF
    have HLH := hide (fun wx => l07LeafHash_any k v wx hk hv)
    have HV : Hid (trR (.leaf k v) = lfR k v) := rfl
    clear hB hok HNE
    go_enter Tryd.func37, Tryd.ntmps37
    go_wp2_with fail
    generalize w.alloc (.cells #[.string k, .string v, .int .i64 256, .slice sa 0 cap] 27) = w1 at *
    refine (unhide HE w1).mono ?_
    rintro e w2 ⟨rfl, hb2⟩
    have B2 := hide ((unhide B0).trans (hb2.mono (unhide B0).size))
    have X2 := hide ((unhide X0).below hb2)
    clear hb2
    have x0 := (unhide X2).cell 0 rfl
    have x1 := (unhide X2).cell 1 rfl
    have x2 := (unhide X2).cell 2 rfl
    have x3 := (unhide X2).cell 3 rfl
    go_wp2_with fail
    refine (unhide HLF w2).mono ?_
    rintro e w3 ⟨rfl, hb3⟩
    have B3 := hide ((unhide B2).trans (hb3.mono (unhide B2).size))
    have X3 := hide ((unhide X2).below hb3)
    clear hb3 x0 x1 x2 x3
    have x0 := (unhide X3).cell 0 rfl
    have x1 := (unhide X3).cell 1 rfl
    go_wp2_with fail
    refine (unhide HLH w3).mono ?_
    rintro e w4 ⟨rfl, hb4⟩
    have B4 := hide ((unhide B3).trans (hb4.mono (unhide B3).size))
    clear hb4
    rw [← unhide HV]
    go_wp2_with fail
    go_ret
    exact ⟨rfl, unhide B4⟩
  | fork a hh l r ihl ihr =>
    intro hok S kv w hB
    obtain ⟨sa, cap, rfl, _, hcm⟩ := hB.shape
    have HNE := not_empty hok
    obtain ⟨ha, _, okl, okr⟩ := hok
    dsimp only [Tr.toBr, Br.key, Br.val, Br.at_, Br.kids] at HNE hB ⊢
    have B0 := hide ((Below.refl w.heap.size w).alloc (Nat.le_refl _) (.cells #[.string ⟨#[]⟩, .string ⟨#[]⟩, .int .i64 a, .slice sa 2 cap] 27))
    have X0 := hide (Blk.new w #[.string ⟨#[]⟩, .string ⟨#[]⟩, .int .i64 a, .slice sa 2 cap] 27 w.heap.size rfl)
    have HE := hide (fun wx => l07Empty_any ⟨#[]⟩ ⟨#[]⟩ a [l.toBr, r.toBr] sa cap wx (by unfold maxLen; simp))
    have HLF := hide (fun wx => l07Leaf_any ⟨#[]⟩ ⟨#[]⟩ a sa 2 cap wx (by unfold maxLen; omega))
    rw [HNE] at HE
    rw [show decide (2 = 0) = false from rfl] at HLF
    obtain ⟨bb, off, kvf, rfl, _, hat⟩ := hB.at (by simp)
    have hbb := hat.lt
    obtain ⟨s00, s01, s02, s03⟩ := hat.cells 0 (by simp)
    obtain ⟨s10, s11, s12, s13⟩ := hat.cells 1 (by simp)
    have K0 := hide (hat.kids 0 (by simp))
    have K1 := hide (hat.kids 1 (by simp))
    simp only [List.getD_cons_zero, List.getD_cons_succ, Nat.zero_mul, Nat.add_zero, Nat.one_mul] at s00 s01 s02 s03 s10 s11 s12 s13 K0 K1
    obtain ⟨ka0, kc0, hkv0, _, _⟩ := (unhide K0).shape
    obtain ⟨ka1, kc1, hkv1, _, _⟩ := (unhide K1).shape
    rw [hkv0] at K0 s03
    rw [hkv1] at K1 s13
    have HL := hide (fun wx (hx : Below w.heap.size w wx) => ihl okl S _ wx ((unhide K0).blw hx))
    have HR := hide (fun wx (hx : Below w.heap.size w wx) => ihr okr S _ wx ((unhide K1).blw hx))
    have HF := hide (fun wx => l07ForkHash_any a (trR l) (trR r) wx ha (trR_size l okl) (trR_size r okr))
    have HV : Hid (trR (.fork a hh l r) = fkR a (trR l) (trR r)) := rfl
    clear hB hat hkv0 hkv1 K0 K1 ihl ihr HNE
    generalize l.toBr = b0 at *
    generalize r.toBr = b1 at *
    generalize trR l = rl at *
    generalize trR r = rr at *
    simp only [List.length_cons, List.length_nil] at HE
    go_enter Tryd.func37, Tryd.ntmps37
    go_wp2_with fail
    generalize w.alloc (.cells #[.string ⟨#[]⟩, .string ⟨#[]⟩, .int .i64 a, .slice (some ⟨bb, off, none⟩) 2 cap] 27) = w1 at *
    refine (unhide HE w1).mono ?_
    rintro e w2 ⟨rfl, hb2⟩
    have B2 := hide ((unhide B0).trans (hb2.mono (unhide B0).size))
    have X2 := hide ((unhide X0).below hb2)
    clear hb2
    have x0 := (unhide X2).cell 0 rfl
    have x1 := (unhide X2).cell 1 rfl
    have x2 := (unhide X2).cell 2 rfl
    have x3 := (unhide X2).cell 3 rfl
    go_wp2_with fail
    refine (unhide HLF w2).mono ?_
    rintro e w3 ⟨rfl, hb3⟩
    have B3 := hide ((unhide B2).trans (hb3.mono (unhide B2).size))
    have X3 := hide ((unhide X2).below hb3)
    clear hb3 x0 x1 x2 x3
    have hX := (unhide X3).1
    have hw3 := (unhide B3).size
    have HSX : Hid (∀ wx, Below w3.heap.size w3 wx → wx.cell? ⟨w.heap.size, 2, none⟩ = some (.int .i64 a) ∧ wx.cell? ⟨w.heap.size, 3, none⟩ = some (.slice (some ⟨bb, off, none⟩) 2 cap) ∧ wx.cell? ⟨bb, off, none⟩ = some (.string b0.key) ∧ wx.cell? ⟨bb, off + 1, none⟩ = some (.string b0.val) ∧ wx.cell? ⟨bb, off + 2, none⟩ = some (.int .i64 b0.at_) ∧ wx.cell? ⟨bb, off + 3, none⟩ = some (.slice ka0 b0.kids.length kc0) ∧ wx.cell? ⟨bb, off + 4, none⟩ = some (.string b1.key) ∧ wx.cell? ⟨bb, off + 4 + 1, none⟩ = some (.string b1.val) ∧ wx.cell? ⟨bb, off + 4 + 2, none⟩ = some (.int .i64 b1.at_) ∧ wx.cell? ⟨bb, off + 4 + 3, none⟩ = some (.slice ka1 b1.kids.length kc1)) := hide (fun wx hb => by
      have hb' := (unhide B3).trans (hb.mono hw3)
      have X := (unhide X3).below hb
      exact ⟨X.cell 2 rfl, X.cell 3 rfl, (hb'.cell (p := ⟨bb, off, none⟩) hbb).trans s00, (hb'.cell (p := ⟨bb, off + 1, none⟩) hbb).trans s01, (hb'.cell (p := ⟨bb, off + 2, none⟩) hbb).trans s02, (hb'.cell (p := ⟨bb, off + 3, none⟩) hbb).trans s03, (hb'.cell (p := ⟨bb, off + 4, none⟩) hbb).trans s10, (hb'.cell (p := ⟨bb, off + 4 + 1, none⟩) hbb).trans s11, (hb'.cell (p := ⟨bb, off + 4 + 2, none⟩) hbb).trans s12, (hb'.cell (p := ⟨bb, off + 4 + 3, none⟩) hbb).trans s13⟩)
    obtain ⟨y2, y3, t00, t01, t02, t03, t10, t11, t12, t13⟩ := unhide HSX w3 (Below.refl _ _)
    clear s00 s01 s02 s03 s10 s11 s12 s13
    go_wp2_with fail
    go_region_held3 (fun wx => wx.cell? ⟨w.heap.size, 2, none⟩ = some (.int .i64 a) ∧ wx.cell? ⟨w.heap.size, 3, none⟩ = some (.slice (some ⟨bb, off, none⟩) 2 cap) ∧ wx.cell? ⟨bb, off, none⟩ = some (.string b0.key) ∧ wx.cell? ⟨bb, off + 1, none⟩ = some (.string b0.val) ∧ wx.cell? ⟨bb, off + 2, none⟩ = some (.int .i64 b0.at_) ∧ wx.cell? ⟨bb, off + 3, none⟩ = some (.slice ka0 b0.kids.length kc0) ∧ wx.cell? ⟨bb, off + 4, none⟩ = some (.string b1.key) ∧ wx.cell? ⟨bb, off + 4 + 1, none⟩ = some (.string b1.val) ∧ wx.cell? ⟨bb, off + 4 + 2, none⟩ = some (.int .i64 b1.at_) ∧ wx.cell? ⟨bb, off + 4 + 3, none⟩ = some (.slice ka1 b1.kids.length kc1)) (first | go_keep | exact unhide HSX _ hc3 | exact unhide HSX _ hc2 | exact unhide HSX _ hc1) (first
      | (go_at_call 76; refine (unhide HF w5).mono ?_; rintro e w6 ⟨rfl, hb6⟩; have hc3 := hc2.trans (hb6.mono hc2.size))
      | (go_at_call 37; refine (unhide HR _ ((unhide B3).trans (hc1.mono hw3))).mono ?_; rintro e w5 ⟨rfl, hb5⟩; have hc2 := hc1.trans (hb5.mono hc1.size))
      | (go_at_call 37; refine (unhide HL _ ((unhide B3).trans (((Below.refl _ w3).drew).mono hw3))).mono ?_; rintro e w4 ⟨rfl, hb4⟩; have hc1 : Below w3.heap.size w3 w4 := ((Below.refl _ w3).drew).trans hb4))
    have K := hide ((unhide B3).trans (hc3.mono hw3))
    clear hb4 hb5 hb6 hc1 hc2 hc3 y2 y3 t00 t01 t02 t03 t10 t11 t12 t13
    rw [← unhide HV]
    go_wp2_with fail
    go_ret
    exact ⟨rfl, unhide K⟩
end Go.Proofs.YtkcpdjeemdlgcaaDoor.Sha
namespace Go.Proofs.YtkcpdjeemdlgcaaDoor.Sha
open Go.ChangeShapes Go.WideShapes Go.ChangeAt Go.RowKit
set_option linter.unusedVariables false
set_option linter.unusedSimpArgs false

set_option maxRecDepth 100000 in
set_option maxHeartbeats 1000000 in
theorem l07RootO_any (o : Option Tr) (hok : OkO o) (S : Nat → Prop) (kv : Value) (w : World) (hB : Brs S w kv (brOf o).kids) :
    Calls Tryd.prog 37 #[.agg #[.string (brOf o).key, .string (brOf o).val, .int .i64 (brOf o).at_, kv]] w fun e w' => e = .returned (.string (rootR o)) ∧ Below w.heap.size w w' := by
  cases o with
  | some t => exact l07Root_any t hok S kv w hB
  | none =>
    obtain ⟨sa, cap, rfl, _, hcm⟩ := hB.shape
    dsimp only [brOf, Br.key, Br.val, Br.at_, Br.kids] at hB ⊢
    have B0 := hide ((Below.refl w.heap.size w).alloc (Nat.le_refl _) (.cells #[.string ⟨#[]⟩, .string ⟨#[]⟩, .int .i64 0, .slice sa 0 cap] 27))
    have HE := hide (fun wx => l07Empty_any ⟨#[]⟩ ⟨#[]⟩ 0 [] sa cap wx (by simp))
    have he : emptyBr (.mk ⟨#[]⟩ ⟨#[]⟩ 0 []) = true := (empty_iff _ _ _ _).2 ⟨rfl, rfl, rfl, rfl⟩
    rw [he] at HE
    simp only [List.length_nil] at HE
    have HV : Hid (rootR none = strOfNums (textL (stAt [2] (padLen ([2] : List Int).length / 64)))) := hide (hashV_yes (l := [2]) (by simp))
    clear hB he
    go_enter Tryd.func37, Tryd.ntmps37
    go_wp2_with fail
    generalize w.alloc (.cells #[.string ⟨#[]⟩, .string ⟨#[]⟩, .int .i64 0, .slice sa 0 cap] 27) = w1 at *
    refine (unhide HE w1).mono ?_
    rintro e w2 ⟨rfl, hb2⟩
    have B2 := hide ((unhide B0).trans (hb2.mono (unhide B0).size))
    have hBy : Bytes (w2.alloc (.cells #[.int .u8 2] 5)) (.slice (some ⟨w2.heap.size, 0, none⟩) ([2] : List Int).length 1) [2] := by
      refine OwnB.bytes (B := w2.heap.size) ⟨own_lit (heap_new rfl) (Nat.le_refl _) rfl (by unfold maxLen; simp), fun i => ?_⟩
      match i with
      | 0 => simp
      | i + 1 => simp
    have HL := hide (l01Hash_any _ _ [2] _ hBy (by simp))
    have B3 := hide ((unhide B2).alloc (unhide B2).size (.cells #[.int .u8 2] 5))
    have hl1 : ([2] : List Int).length = 1 := rfl
    rw [hl1] at HL HV
    clear hb2 hBy hl1
    go_wp2_with fail
    refine (unhide HL).mono ?_
    rintro e w3 ⟨rfl, hb3⟩
    have K := hide ((unhide B3).trans (hb3.mono (unhide B3).size))
    clear hb3
    rw [← unhide HV]
    go_wp2_with fail
    go_ret
    exact ⟨rfl, unhide K⟩
set_option maxRecDepth 100000 in
set_option maxHeartbeats 1000000 in
theorem specMapRoot_any (k v : ByteArray) (a : Int) (ks : List Br) (S : Nat → Prop) (kv : Value) (w : World) (hB : Brs S w kv ks) (hk : k.size ≤ maxLen) (hv : v.size ≤ maxLen) :
    Calls Tryd.prog 10 #[.agg #[.string k, .string v, .int .i64 a, kv]] w fun e w' => e = .returned (mrOut (.mk k v a ks)) ∧ Below w.heap.size w w' := by
  obtain ⟨sa, cap, rfl, hcap, hcm⟩ := hB.shape
  have B0 := hide ((Below.refl w.heap.size w).alloc (Nat.le_refl _) (.cells #[.string k, .string v, .int .i64 a, .slice sa ks.length cap] 27))
  have X0 := hide (Blk.new w #[.string k, .string v, .int .i64 a, .slice sa ks.length cap] 27 w.heap.size rfl)
  have HM := hide (fun wx (hx : Below w.heap.size w wx) => specMapOK_any k v a ks S _ wx (hB.blw hx) hk hv)
  have HMB := hide (mapB_V (.mk k v a ks))
  have HO : Hid (mrOut (.mk k v a ks) = match mapV (.mk k v a ks) with | none => .tuple #[.string ⟨#[]⟩, .int .i64 1] | some o => .tuple #[.string (rootR o), .int .i64 0]) := rfl
  have HRT := hide (fun o (h : mapV (.mk k v a ks) = some o) wx (hx : Below w.heap.size w wx) => show Calls Tryd.prog 37 #[.agg #[.string k, .string v, .int .i64 a, .slice sa ks.length cap]] wx fun e w' => e = .returned (.string (rootR o)) ∧ Below wx.heap.size wx w' by
    obtain ⟨h1, h2⟩ := mapV_br h
    have hx2 := hB.blw hx
    have q := l07RootO_any o h2 S (.slice sa ks.length cap) wx (by rw [← h1]; exact hx2)
    rw [← h1] at q
    exact q)
  clear hB hk hv
  go_enter Tryd.func10, Tryd.ntmps10
  go_wp2_with fail
  generalize w.alloc (.cells #[.string k, .string v, .int .i64 a, .slice sa ks.length cap] 27) = w1 at *
  refine (unhide HM w1 (unhide B0)).mono ?_
  rintro e w2 ⟨rfl, hb2⟩
  have B2 := hide ((unhide B0).trans (hb2.mono (unhide B0).size))
  have X2 := hide ((unhide X0).below hb2)
  clear hb2
  have x0 := (unhide X2).cell 0 rfl
  have x1 := (unhide X2).cell 1 rfl
  have x2 := (unhide X2).cell 2 rfl
  have x3 := (unhide X2).cell 3 rfl
  rw [unhide HMB]
  cases hmv : mapV (.mk k v a ks) with
  | none =>
    rw [hmv] at HO
    clear hmv HRT
    rw [show (none : Option (Option Tr)).isSome = false from rfl]
    go_wp2_with fail
    go_ret2
    exact ⟨by rw [unhide HO]; rfl, unhide B2⟩
  | some o =>
    rw [hmv] at HO
    have HRO := hide (unhide HRT o hmv w2 (unhide B2))
    clear hmv HRT
    rw [show (some o).isSome = true from rfl]
    go_wp2_with fail
    refine (unhide HRO).mono ?_
    rintro e w3 ⟨rfl, hb3⟩
    have B3 := hide ((unhide B2).trans (hb3.mono (unhide B2).size))
    clear hb3
    go_wp2_with fail
    go_ret2
    exact ⟨by rw [unhide HO]; rfl, unhide B3⟩
theorem mr_cases (b : Br) : ∃ s c, mrOut b = .tuple #[.string s, .int .i64 c] := by
  unfold mrOut
  split
  · exact ⟨_, _, rfl⟩
  · exact ⟨_, _, rfl⟩
end Go.Proofs.YtkcpdjeemdlgcaaDoor.Sha
