/- A leaf put into a map, pure; newFork over a map; (*mapNode).with. (*mapNode).without: the map without the leaf that a hash's bits lead to. What the laws do with branches: sz, to, eq. Branches of the call's own: each slice in a block that nothing else of the map has; toBranch makes such ones. (*mapNode).branch: a map's nodes written as branches of the call's own. impl.MapDrop. The leaves of a map, ranged over as a function: visit, leaves, size. (*mapNode).with. (*mapNode).put; a map's size, its pointer nil or not; hashes that part at no bit are one. Pure: what a put and a drop keep of a map: bits that rise, hashes apart. -/
import Derived.Test.YtnajpeaieeaflaaDoorBrV
import Derived.Deep.RegionLaw
import Derived.Deep.QuietTactic
import Derived.BigQuiet
import Derived.Test.YtnajpeaieeaflaaDoorBr
import Derived.Deep.RegionHeld3
import Derived.Test.YtnajpeaieeaflaaDoorStrO
import Derived.Test.YtnajpeaieeaflaaDoorLawG
import Derived.Deep.Onto
import Derived.Test.YtnajpeaieeaflaaDoorSet4
import Derived.Deep.RegionHeldLaw
import Derived.Deep.AppendLies
import Derived.RangeFuncNested
import Derived.RangeFuncBound
import Derived.RangeFuncCalls
import Derived.RangeFuncLeaves
import Derived.RangeFuncFrom
import Derived.Shelf.Abstract
import Derived.Shelf.RegionOpen
import Derived.WalkKit
import Derived.OwnWalkIn
import Derived.TacticsInMore
import Derived.LoopNIn
import Derived.LoopIn
import Derived.Deep.DeepCutAuto
namespace Go.Proofs.YtnajpeaieeaflaaDoor.Sha
open Go.ChangeShapes Go.WideShapes Go.ChangeAt Go.RowKit
set_option linter.unusedVariables false
set_option linter.unusedSimpArgs false

/-- How many leaves. -/
def Tr.lvN : Tr → Nat
  | .leaf _ _ => 1
  | .fork _ _ l r => l.lvN + r.lvN
/-- Hashes below a fork: alike ahead of its bit, the first kid's with 0 there. -/
def Sep : Tr → Prop
  | .leaf _ _ => True
  | .fork a h l r => (∀ i, i < a → bitN h i = bitN l.hash i) ∧ fd l.hash r.hash = a ∧ bitN l.hash a = 0 ∧ Sep l ∧ Sep r
theorem readV_sep : ∀ (n : Nat) (b : Br), SizeOf.sizeOf b ≤ n → ∀ (least : Int) (room : Nat) (t : Tr) (r : Nat), readV b least room = some (t, r) → Sep t ∧ r + t.lvN = room := by
  intro n
  induction n with
  | zero => intro b hb; exact absurd hb (by cases b; simp only [Br.mk.sizeOf_spec]; omega)
  | succ n ih =>
    intro b hb least room t r h
    obtain ⟨k, v, a, ks⟩ := b
    by_cases ha : a = 256
    · rw [readV_leaf ha] at h
      split at h
      · rename_i hc
        cases h
        exact ⟨trivial, by show room - 1 + 1 = room; omega⟩
      · cases h
    · by_cases hc : least ≤ a ∧ a ≤ 255 ∧ ks.length = 2 ∧ k.size = 0 ∧ v.size = 0
      · obtain ⟨b0, b1, rfl⟩ := two_of hc.2.2.1
        rw [readV_fork ⟨hc.1, hc.2.1, hc.2.2.2.1, hc.2.2.2.2⟩] at h
        have z0 := kid_lt (k := k) (v := v) (a := a) (l := [b0, b1]) (b := b0) (by simp)
        have z1 := kid_lt (k := k) (v := v) (a := a) (l := [b0, b1]) (b := b1) (by simp)
        cases h0 : readV b0 (a + 1) room with
        | none => rw [h0] at h; cases h
        | some p0 =>
          obtain ⟨t0, r0⟩ := p0
          rw [h0] at h
          dsimp only at h
          cases h1 : readV b1 (a + 1) r0 with
          | none => rw [h1] at h; cases h
          | some p1 =>
            obtain ⟨t1, r1⟩ := p1
            rw [h1] at h
            dsimp only at h
            split at h
            · rename_i hf
              cases h
              obtain ⟨e0, n0⟩ := ih b0 (by omega) _ _ _ _ h0
              obtain ⟨e1, n1⟩ := ih b1 (by omega) _ _ _ _ h1
              exact ⟨⟨fun _ _ => rfl, hf.1, hf.2, e0, e1⟩, by show r + (t0.lvN + t1.lvN) = room; omega⟩
            · cases h
      · rw [readV_no ha hc] at h; cases h
def SepO : Option Tr → Prop
  | none => True
  | some t => Sep t ∧ t.lvN ≤ 40
theorem mapV_sep {b : Br} {o : Option Tr} (h : mapV b = some o) : SepO o := by
  unfold mapV at h
  split at h
  · cases h; trivial
  · cases hr : readV b 0 40 with
    | none => rw [hr] at h; cases h
    | some p =>
      obtain ⟨t, r⟩ := p
      rw [hr] at h
      cases h
      obtain ⟨h1, h2⟩ := readV_sep _ b (Nat.le_refl _) 0 40 t r hr
      exact ⟨h1, by omega⟩
theorem fdF_comm (x y : ByteArray) : ∀ n i, fdF x y n i = fdF y x n i
  | 0, i => rfl
  | n + 1, i => by
    unfold fdF
    by_cases h : bitN x i = bitN y i
    · rw [if_pos h, if_pos h.symm, fdF_comm x y n]
    · rw [if_neg h, if_neg (fun e => h e.symm)]
theorem fd_comm (x y : ByteArray) : fd x y = fd y x := fdF_comm x y 256 0
theorem lead_alike (h : ByteArray) : ∀ (t : Tr) (m : Nat), Rise m t → Sep t → ∀ i, i < t.at_ → bitN (kh (leadL h t).1) i = bitN t.hash i
  | .leaf k v, m, hr, hs, i, hi => rfl
  | .fork a hh l r, m, hr, hs, i, hi => by
    obtain ⟨r0, r1, r2, r3⟩ := hr
    obtain ⟨s0, s1, s2, s3, s4⟩ := hs
    have hi' : i < a := hi
    have hl := r2.le
    have hrr := r3.le
    unfold leadL
    split
    · rw [lead_alike h l _ r2 s3 i (by omega)]
      show _ = bitN hh i
      rw [s0 i hi']
    · rw [lead_alike h r _ r3 s4 i (by omega)]
      show _ = bitN hh i
      rw [s0 i hi']
      exact (((fd_iff l.hash r.hash a r1).1 s1).1 i hi').symm
theorem lead_bit (h : ByteArray) {a : Nat} {hh : ByteArray} {l r : Tr} {m : Nat} (hr : Rise m (.fork a hh l r)) (hs : Sep (.fork a hh l r)) : bitN (kh (leadL h (.fork a hh l r)).1) a = bitN h a := by
  obtain ⟨r0, r1, r2, r3⟩ := hr
  obtain ⟨s0, s1, s2, s3, s4⟩ := hs
  have hl := r2.le
  have hrr := r3.le
  unfold leadL
  split
  · rename_i hb
    rw [lead_alike h l _ r2 s3 a (by omega), s2, hb]
  · rename_i hb
    rw [lead_alike h r _ r3 s4 a (by omega)]
    have h1 := ((fd_iff l.hash r.hash a r1).1 s1).2
    rcases bitN_01 r.hash a with e | e
    · exact absurd (s2.trans e.symm) h1
    · rcases bitN_01 h a with e' | e'
      · exact absurd e' hb
      · rw [e, e']
/-- A fork of a new leaf and a map. -/
def forkT (a : Nat) (h k v : ByteArray) (t : Tr) : Tr := if bitN h a = 0 then .fork a h (.leaf k v) t else .fork a h t (.leaf k v)
/-- The map with a leaf. -/
def putT (h : ByteArray) (at_ : Nat) (k v : ByteArray) : Tr → Tr
  | .leaf k' v' => if at_ = 256 then .leaf k v else forkT at_ h k v (.leaf k' v')
  | .fork a hh l r => if a < at_ then (if bitN h a = 0 then .fork a hh (putT h at_ k v l) r else .fork a hh l (putT h at_ k v r)) else forkT at_ h k v (.fork a hh l r)
theorem forkT_ok {a : Nat} {h k v : ByteArray} {t : Tr} (ha : a < 256) (hh : h.size = 32) (hk : okK k = true) (hv : v.size ≤ 60) (ht : TrOK t) : TrOK (forkT a h k v t) := by
  unfold forkT; split
  · exact ⟨ha, hh, ⟨hk, hv⟩, ht⟩
  · exact ⟨ha, hh, ht, ⟨hk, hv⟩⟩
theorem putT_ok (h : ByteArray) (a : Nat) (k v : ByteArray) (ha : a ≤ 256) (hh : h.size = 32) (hk : okK k = true) (hv : v.size ≤ 60) : ∀ t, TrOK t → TrOK (putT h a k v t)
  | .leaf k' v', ho => by
    unfold putT; split
    · exact ⟨hk, hv⟩
    · exact forkT_ok (by omega) hh hk hv ho
  | .fork b hb l r, ho => by
    unfold putT; split
    · split
      · exact ⟨ho.1, ho.2.1, putT_ok h a k v ha hh hk hv l ho.2.2.1, ho.2.2.2⟩
      · exact ⟨ho.1, ho.2.1, ho.2.2.1, putT_ok h a k v ha hh hk hv r ho.2.2.2⟩
    · exact forkT_ok (by have := ho.1; omega) hh hk hv ho
/-- What with answers: the nodes that were there, the leaf's, and new ones. -/
def WithR (S : Nat → Prop) (q : Nat) (t : Tr) (w : World) (e : Ending) (w' : World) : Prop := ∃ p, e = .returned (.pointer (some ⟨p, 0, none⟩)) ∧ Nd w' (fun b => S b ∨ b = q ∨ (w.heap.size ≤ b ∧ b < w'.heap.size)) p t ∧ Touch S w w'
theorem newFork_nd {w : World} {S : Nat → Prop} {p q a : Nat} {t : Tr} {k v : ByteArray} (hn : Nd w S p t) (ho : t.hash.size = 32) (hS : ∀ b, S b → b < w.heap.size) (hq : Blk w q (lfC k v)) (hqS : ¬ S q) (hk : k.size ≤ 65536) (ha : a < 256) (hxy : bitN (kh k) a ≠ bitN t.hash a) :
    Calls Tryd.prog 79 #[.int .i64 a, .pointer (some ⟨q, 0, none⟩), .pointer (some ⟨p, 0, none⟩)] w fun e w' => WithR S q (forkT a (kh k) k v t) w e w' := by
  refine (newFork_any a q p (kh k) t.hash w ha (kh_size hk) ho hxy hq.1 hn.here.2 (hq.cell 2 rfl) hn.hashC).mono ?_
  rintro e w' ⟨f, rfl, hf, hB, hb⟩
  have hq' := hq.1
  have hnq := hq.below hb
  have hnn := hn.blw hb
  refine ⟨f, rfl, ?_, Touch.ofBelow hb⟩
  have hfl := hB.1
  unfold forkT
  unfold kidsV at hB
  by_cases hb0 : bitN (kh k) a = 0
  · rw [if_pos hb0] at hB ⊢
    exact .fork _ (fun b => b = q) S f a (kh k) (.leaf k v) t q p (.inr (.inr ⟨hf, hfl⟩)) (fun b e => ⟨.inr (.inl e), by omega⟩) (fun b e => ⟨.inl e, by have := hS b e; omega⟩) (fun b e h => hqS (e ▸ h)) hB (.leaf _ q k v rfl hnq) hnn
  · rw [if_neg hb0] at hB ⊢
    exact .fork _ S (fun b => b = q) f a (kh k) t (.leaf k v) p q (.inr (.inr ⟨hf, hfl⟩)) (fun b e => ⟨.inl e, by have := hS b e; omega⟩) (fun b e => ⟨.inr (.inl e), by omega⟩) (fun b e h => hqS (h ▸ e)) hB hnn (.leaf _ q k v rfl hnq)
theorem hash_of_ok {t : Tr} (h : TrOK t) : t.hash.size = 32 := by
  cases t with
  | leaf k v => exact kh_size (by have := (okK_iff.1 h.1).2; omega)
  | fork a hh l r => exact h.2.1
end Go.Proofs.YtnajpeaieeaflaaDoor.Sha
namespace Go.Proofs.YtnajpeaieeaflaaDoor.Sha
open Go.ChangeShapes Go.WideShapes Go.ChangeAt Go.RowKit
set_option linter.unusedVariables false
set_option linter.unusedSimpArgs false

/-- The map without the leaf that a hash's bits lead to. -/
def dropT (h : ByteArray) : Tr → Option Tr
  | .leaf _ _ => none
  | .fork a hh l r => if bitN h a = 0 then (match dropT h l with | none => some r | some l' => some (.fork a hh l' r)) else (match dropT h r with | none => some l | some r' => some (.fork a hh l r'))
theorem dropT_ok (h : ByteArray) : ∀ (t : Tr), TrOK t → OkO (dropT h t)
  | .leaf _ _, ho => trivial
  | .fork a hh l r, ho => by
    have h1 := dropT_ok h l ho.2.2.1
    have h2 := dropT_ok h r ho.2.2.2
    unfold dropT
    split
    · cases he : dropT h l with
      | none => exact ho.2.2.2
      | some l' => rw [he] at h1; exact ⟨ho.1, ho.2.1, h1, ho.2.2.2⟩
    · cases he : dropT h r with
      | none => exact ho.2.2.1
      | some r' => rw [he] at h2; exact ⟨ho.1, ho.2.1, ho.2.2.1, h2⟩
/-- What without answers. -/
def DropR (S : Nat → Prop) (o : Option Tr) (w : World) (e : Ending) (w' : World) : Prop := ∃ pv, e = .returned (.pointer pv) ∧ PtrM w' S pv o ∧ Touch S w w'
end Go.Proofs.YtnajpeaieeaflaaDoor.Sha
namespace Go.Proofs.YtnajpeaieeaflaaDoor.Sha
open Go.ChangeShapes Go.WideShapes Go.ChangeAt Go.RowKit
set_option linter.unusedVariables false

end Go.Proofs.YtnajpeaieeaflaaDoor.Sha
namespace Go.Proofs.YtnajpeaieeaflaaDoor.Sha
open Go.ChangeShapes Go.WideShapes Go.ChangeAt Go.RowKit
set_option linter.unusedVariables false

/-- The cells of a row of branches. -/
def RowIs (xs : List Value) (l : List Br) (kv : Nat → Value) (k : Nat) : Prop :=
  ∀ i, i < k → xs[i * 4]? = some (.string (l.getD i default).key) ∧ xs[i * 4 + 1]? = some (.string (l.getD i default).val) ∧ xs[i * 4 + 2]? = some (.int .i64 (l.getD i default).at_) ∧ xs[i * 4 + 3]? = some (kv i)
theorem set4_same (xs : List Value) (k n : Nat) (a b c d : Value) (hl : xs.length = n * 4) (hk : k < n) :
    ((((xs.set (k * 4) a).set (k * 4 + 1) b).set (k * 4 + 2) c).set (k * 4 + 3) d)[k * 4]? = some a ∧ ((((xs.set (k * 4) a).set (k * 4 + 1) b).set (k * 4 + 2) c).set (k * 4 + 3) d)[k * 4 + 1]? = some b ∧
    ((((xs.set (k * 4) a).set (k * 4 + 1) b).set (k * 4 + 2) c).set (k * 4 + 3) d)[k * 4 + 2]? = some c ∧ ((((xs.set (k * 4) a).set (k * 4 + 1) b).set (k * 4 + 2) c).set (k * 4 + 3) d)[k * 4 + 3]? = some d := by
  refine ⟨?_, ?_, ?_, ?_⟩
  · rw [List.getElem?_set_ne (by omega), List.getElem?_set_ne (by omega), List.getElem?_set_ne (by omega), List.getElem?_set_self (by omega)]
  · rw [List.getElem?_set_ne (by omega), List.getElem?_set_ne (by omega), List.getElem?_set_self (by simp; omega)]
  · rw [List.getElem?_set_ne (by omega), List.getElem?_set_self (by simp; omega)]
  · rw [List.getElem?_set_self (by simp; omega)]
theorem set4_other (xs : List Value) (k j : Nat) (a b c d : Value) (h : j < k * 4 ∨ k * 4 + 3 < j) : ((((xs.set (k * 4) a).set (k * 4 + 1) b).set (k * 4 + 2) c).set (k * 4 + 3) d)[j]? = xs[j]? := by
  rw [List.getElem?_set_ne (by omega), List.getElem?_set_ne (by omega), List.getElem?_set_ne (by omega), List.getElem?_set_ne (by omega)]
/-- The value is a slice of the call's own that holds these branches, and all their slices lie in blocks of S, no two in one. -/
inductive BrO (w : World) : (Nat → Prop) → Value → List Br → Prop
  | nil (S : Nat → Prop) (a : Option Addr) (cap : Nat) : cap ≤ maxLen → BrO w S (.slice a 0 cap) []
  | row (S : Nat → Prop) (g cap : Nat) (l : List Br) (kv : Nat → Value) (xs : List Value) (Si : Nat → Nat → Prop) : 0 < l.length → S g →
      w.ownsRow 0 25 4 (.slice (some ⟨g, 0, none⟩) l.length cap) l.length xs → RowIs xs l kv l.length →
      (∀ i, i < l.length → (l.getD i default).key.size ≤ maxLen ∧ (l.getD i default).val.size ≤ maxLen) →
      (∀ i b, i < l.length → Si i b → S b ∧ b ≠ g) →
      (∀ i j b, i < j → j < l.length → Si i b → ¬ Si j b) →
      (∀ i, i < l.length → BrO w (Si i) (kv i) (l.getD i default).kids) →
      BrO w S (.slice (some ⟨g, 0, none⟩) l.length cap) l
theorem BrO.brs {w : World} {S : Nat → Prop} {v : Value} {l : List Br} (h : BrO w S v l) : Brs S w v l := by
  induction h with
  | nil S a cap hc => exact .nil a cap hc
  | row S g cap l kv xs Si h0 h1 h2 h3 h4 h5 h6 h7 ih =>
    obtain ⟨hl, hc⟩ := id h2
    rcases hc with ⟨hx, _⟩ | ⟨g', cap', cur, hv, hb, hg, hn, hm, hz, ht⟩
    · cases hx
    · simp only [Value.slice.injEq, Option.some.injEq, Addr.mk.injEq] at hv
      obtain ⟨⟨rfl, _, _⟩, _, rfl⟩ := hv
      refine .row g 0 cap l kv h0 hn hm (Array.getElem?_eq_some_iff.1 hg).1 h1 (fun i hi => ?_) h4 (fun i hi => (ih i hi).mono (fun b hb => (h5 i b hi hb).1))
      obtain ⟨e0, e1, e2, e3⟩ := h3 i hi
      rw [Nat.zero_add]
      exact ⟨(h2.cellAt _ (by omega)).trans e0, (h2.cellAt _ (by omega)).trans e1, (h2.cellAt _ (by omega)).trans e2, (h2.cellAt _ (by omega)).trans e3⟩
theorem BrO.touch {w w' : World} {S T : Nat → Prop} {v : Value} {l : List Br} (h : BrO w S v l) (ht : Touch T w w') (hn : ∀ k, S k → ¬ T k) : BrO w' S v l := by
  induction h with
  | nil S a cap hc => exact .nil S a cap hc
  | row S g cap l kv xs Si h0 h1 h2 h3 h4 h5 h6 h7 ih =>
    exact .row S g cap l kv xs Si h0 h1 (own_kept h2 ht (fun k hk => by cases hk; exact hn g h1)) h3 h4 h5 h6 (fun i hi => ih i hi (fun k hk => hn k (h5 i k hi hk).1))
theorem BrO.blw {w w' : World} {S : Nat → Prop} {v : Value} {l : List Br} (h : BrO w S v l) (hb : Below w.heap.size w w') : BrO w' S v l := h.touch (T := fun _ => False) (Touch.ofBelow hb) (fun _ _ h => h)
theorem BrO.mono {w : World} {S T : Nat → Prop} {v : Value} {l : List Br} (h : BrO w S v l) (hst : ∀ k, S k → T k) : BrO w T v l := by
  cases h with
  | nil S a cap hc => exact .nil T a cap hc
  | row S g cap l kv xs Si h0 h1 h2 h3 h4 h5 h6 h7 => exact .row T g cap l kv xs Si h0 (hst g h1) h2 h3 h4 (fun i b hi hb => ⟨hst b (h5 i b hi hb).1, (h5 i b hi hb).2⟩) h6 h7
theorem BrO.shape {w : World} {S : Nat → Prop} {v : Value} {l : List Br} (h : BrO w S v l) : ∃ a cap, v = .slice a l.length cap ∧ l.length ≤ cap ∧ cap ≤ maxLen := h.brs.shape
theorem infoBr : (Tryd.prog.info? 25).map (fun i => (i.zero, i.size, i.bytes)) = some (some (.agg #[.string ⟨#[]⟩, .string ⟨#[]⟩, .int .i64 0, .slice none 0 0]), 4, 64) := by kernel_rfl

theorem made4_len (l : Nat) : (madeCells (Value.agg #[.string ⟨#[]⟩, .string ⟨#[]⟩, .int .i64 0, .slice none 0 0]).cells (l * 4)).toList.length = l * 4 := by
  rw [Array.length_toList, size_madeCells]
end Go.Proofs.YtnajpeaieeaflaaDoor.Sha
namespace Go.Proofs.YtnajpeaieeaflaaDoor.Sha
open Go.ChangeShapes Go.WideShapes Go.ChangeAt Go.RowKit
set_option linter.unusedVariables false
set_option linter.unusedSimpArgs false

/-- What branch answers. -/
def BranchR (b : Br) (w : World) (e : Ending) (w' : World) : Prop := ∃ sa n cap, e = .returned (.agg #[.string b.key, .string b.val, .int .i64 b.at_, .slice sa n cap]) ∧ BrO w' (fun x => w.heap.size ≤ x ∧ x < w'.heap.size) (.slice sa n cap) b.kids ∧ Below w.heap.size w w'
theorem toBr_small {t : Tr} (h : TrOK t) : t.toBr.key.size ≤ maxLen ∧ t.toBr.val.size ≤ maxLen := by
  cases t with
  | leaf k v =>
    have h1 := (okK_iff.1 h.1).2
    have h2 : v.size ≤ 60 := h.2
    simp only [Tr.toBr, Br.key, Br.val]
    unfold maxLen
    omega
  | fork a hh l r =>
    simp only [Tr.toBr, Br.key, Br.val]
    unfold maxLen
    simp [ByteArray.size]
/-- Two branches in a new block, each with slices of its own. -/
theorem BrO.two {w : World} {m0 m1 : Nat} {b0 b1 : Br} {v0 v1 : Value} (h0 : BrO w (fun x => m0 ≤ x ∧ x < m1) v0 b0.kids) (h1 : BrO w (fun x => m1 ≤ x ∧ x < w.heap.size) v1 b1.kids) (hm : m0 ≤ m1) (hm2 : m1 ≤ w.heap.size)
    (z0 : b0.key.size ≤ maxLen ∧ b0.val.size ≤ maxLen) (z1 : b1.key.size ≤ maxLen ∧ b1.val.size ≤ maxLen) :
    BrO (w.alloc (.cells #[.string b0.key, .string b0.val, .int .i64 b0.at_, v0, .string b1.key, .string b1.val, .int .i64 b1.at_, v1] 25)) (fun x => m0 ≤ x ∧ x < w.heap.size + 1) (.slice (some ⟨w.heap.size, 0, none⟩) 2 2) [b0, b1] := by
  have BB := (Below.refl w.heap.size w).alloc (Nat.le_refl _) (.cells #[.string b0.key, .string b0.val, .int .i64 b0.at_, v0, .string b1.key, .string b1.val, .int .i64 b1.at_, v1] 25)
  have hrow := World.ownsRow_lit (base := 0) (e := 25) (size := 4) w #[.string b0.key, .string b0.val, .int .i64 b0.at_, v0, .string b1.key, .string b1.val, .int .i64 b1.at_, v1] 2 (Nat.zero_le _) (by unfold maxLen; omega) rfl
  refine BrO.row _ w.heap.size 2 [b0, b1] (fun i => if i = 0 then v0 else v1) _ (fun i x => if i = 0 then m0 ≤ x ∧ x < m1 else m1 ≤ x ∧ x < w.heap.size) (by simp) ⟨by omega, by omega⟩ hrow ?_ ?_ ?_ ?_ ?_
  · intro i hi
    have hi2 : i < 2 := hi
    rcases (show i = 0 ∨ i = 1 by omega) with rfl | rfl
    · exact ⟨rfl, rfl, rfl, rfl⟩
    · exact ⟨rfl, rfl, rfl, rfl⟩
  · intro i hi
    have hi2 : i < 2 := hi
    rcases (show i = 0 ∨ i = 1 by omega) with rfl | rfl
    · exact z0
    · exact z1
  · intro i b hi hb
    have hi2 : i < 2 := hi
    rcases (show i = 0 ∨ i = 1 by omega) with rfl | rfl
    · rw [if_pos rfl] at hb; omega
    · rw [if_neg (by omega)] at hb; omega
  · intro i j b hij hj hb hb2
    have hj2 : j < 2 := hj
    obtain rfl : i = 0 := by omega
    obtain rfl : j = 1 := by omega
    rw [if_pos rfl] at hb
    rw [if_neg (by omega)] at hb2
    omega
  · intro i hi
    have hi2 : i < 2 := hi
    rcases (show i = 0 ∨ i = 1 by omega) with rfl | rfl
    · exact h0.blw BB
    · exact h1.blw BB
end Go.Proofs.YtnajpeaieeaflaaDoor.Sha
namespace Go.Proofs.YtnajpeaieeaflaaDoor.Sha
open Go.ChangeShapes Go.WideShapes Go.ChangeAt Go.RowKit
set_option linter.unusedVariables false
set_option linter.unusedSimpArgs false

/-- What MapDrop answers of a map: the branch, the code. -/
def mdO (o : Option Tr) (key : ByteArray) : Br × Int := match o with
  | none => (brOf none, 5)
  | some t => if (leadL (kh key) t).1 = key then (brOf (dropT (kh key) t), 0) else (brOf none, 5)
def mdOut (b : Br) (key : ByteArray) : Br × Int := if txC key.size 1 24 = 0 then (match mapV b with
    | none => (brOf none, 1)
    | some o => mdO o key)
  else (brOf none, txC key.size 1 24)
/-- A branch as a value, its slices of the call's own. -/
def BrV (m : Nat) (w : World) (u : Value) (b : Br) : Prop := ∃ sa n cap, u = .agg #[.string b.key, .string b.val, .int .i64 b.at_, .slice sa n cap] ∧ BrO w (fun x => m ≤ x ∧ x < w.heap.size) (.slice sa n cap) b.kids
theorem brV_nil (m : Nat) (w : World) : BrV m w (.agg #[.string ⟨#[]⟩, .string ⟨#[]⟩, .int .i64 0, .slice none 0 0]) (brOf none) := ⟨none, 0, 0, rfl, .nil _ _ _ (by unfold maxLen; omega)⟩
/-- Behind the last stores. -/
theorem end4b {w wx : World} {R m : Nat} {x0 x1 x2 x3 : Value} {b : Br} {sa : Option Addr} {n cap : Nat} (hX : Blk wx R [x0, x1, x2, x3]) (hb : Below w.heap.size w wx) (ho : BrO wx (fun x => m ≤ x ∧ x < wx.heap.size) (.slice sa n cap) b.kids) (h0 : w.heap.size ≤ R) (h1 : R < m) :
    Blk (set4 wx R (.string b.key) (.string b.val) (.int .i64 b.at_) (.slice sa n cap)) R [.string b.key, .string b.val, .int .i64 b.at_, .slice sa n cap] ∧ BrV w.heap.size (set4 wx R (.string b.key) (.string b.val) (.int .i64 b.at_) (.slice sa n cap)) (.agg #[.string b.key, .string b.val, .int .i64 b.at_, .slice sa n cap]) b ∧ Below w.heap.size w (set4 wx R (.string b.key) (.string b.val) (.int .i64 b.at_) (.slice sa n cap)) := by
  have ht := set4_touch wx R (.string b.key) (.string b.val) (.int .i64 b.at_) (.slice sa n cap)
  have hts := ht.size
  refine ⟨set4_blk hX _ _ _ _, ⟨sa, n, cap, rfl, (ho.touch ht (fun q hq e => by omega)).mono (fun q hq => ⟨by omega, by omega⟩)⟩, hb.trans (ht.below hb.size (fun q hq e => by omega))⟩
end Go.Proofs.YtnajpeaieeaflaaDoor.Sha
namespace Go.Proofs.YtnajpeaieeaflaaDoor.Sha
open Go.ChangeShapes Go.WideShapes Go.ChangeAt Go.RowKit Go.Shelf
set_option linter.unusedVariables false
set_option linter.unusedSimpArgs false
attribute [local go_sem] Oper.semAt_some

/-- A leaf in memory, as it lies in the world w0 below n₀. -/
abbrev LfA (w0 : World) (n₀ : Nat) := { x : Nat × ByteArray × ByteArray // x.1 < n₀ ∧ w0.cell? ⟨x.1, 0, none⟩ = some (.string x.2.1) ∧ w0.cell? ⟨x.1, 1, none⟩ = some (.string x.2.2) ∧ x.2.1.size ≤ 24 ∧ x.2.2.size ≤ 60 }
inductive LT (w0 : World) (n₀ : Nat) where
  | leaf (x : LfA w0 n₀)
  | fork (a : Nat) (l r : LT w0 n₀)
def LT.list {w0 : World} {n₀ : Nat} : LT w0 n₀ → List (LfA w0 n₀)
  | .leaf x => [x]
  | .fork _ l r => l.list ++ r.list
def IsLT {w0 : World} {n₀ : Nat} (W : World) : Nat → LT w0 n₀ → Prop
  | p, .leaf x => p = x.1.1 ∧ W.cell? ⟨p, 3, none⟩ = some (.int .i64 256)
  | p, .fork a l r => p < n₀ ∧ a < 256 ∧ W.cell? ⟨p, 3, none⟩ = some (.int .i64 a) ∧ ∃ pl pr, W.cell? ⟨p, 4, none⟩ = some (.pointer (some ⟨pl, 0, none⟩)) ∧ W.cell? ⟨p, 5, none⟩ = some (.pointer (some ⟨pr, 0, none⟩)) ∧ IsLT W pl l ∧ IsLT W pr r
theorem IsLT.below {w0 A B : World} {n₀ : Nat} (h : Below n₀ A B) : ∀ {T : LT w0 n₀} {p : Nat}, IsLT A p T → IsLT B p T
  | .leaf x, p, ⟨h1, h2⟩ => ⟨h1, (h.cell (p := ⟨p, 3, none⟩) (by rw [h1]; exact x.2.1)).trans h2⟩
  | .fork a l r, p, ⟨h0, h1, h2, pl, pr, h3, h4, h5, h6⟩ => ⟨h0, h1, (h.cell (p := ⟨p, 3, none⟩) h0).trans h2, pl, pr, (h.cell (p := ⟨p, 4, none⟩) h0).trans h3, (h.cell (p := ⟨p, 5, none⟩) h0).trans h4, h5.below h, h6.below h⟩
theorem wide_room (k : Nat) : Fence.wide.room k := fun d h => by cases h
theorem yield_wide {m : Nat} (m' : Nat) {P : Program} {l : Nat} {args : Array Value} {W : World} {R : Ending → World → Prop} (h : YieldAt Fence.wide m P l args W R) : YieldAt Fence.wide m' P l args W R := by
  obtain ⟨fn, tmps, asg, bd, hy, hR⟩ := h
  exact ⟨fn, tmps, asg, bd, hy, hR.1, fun c cs _ => hR.2 c cs (wide_room _)⟩
/-- The leaves of a map, in their order. -/
def Tr.lvs : Tr → List (ByteArray × ByteArray)
  | .leaf k v => [(k, v)]
  | .fork _ _ l r => l.lvs ++ r.lvs
theorem lt_of_nd {w : World} {S : Nat → Prop} {p : Nat} {t : Tr} (h : Nd w S p t) : TrOK t → ∃ T : LT w w.heap.size, IsLT w p T ∧ T.list.map (fun x => x.1.2) = t.lvs := by
  induction h with
  | leaf S p k v h0 h1 => intro ho; exact ⟨.leaf ⟨(p, k, v), h1.1, h1.cell 0 rfl, h1.cell 1 rfl, (okK_iff.1 ho.1).2, ho.2⟩, ⟨rfl, h1.cell 3 rfl⟩, rfl⟩
  | fork S Sl Sr p a h l r pl pr h0 h1 h2 h3 h4 h5 h6 i1 i2 =>
    intro ho
    obtain ⟨T1, a1, b1⟩ := i1 ho.2.2.1
    obtain ⟨T2, a2, b2⟩ := i2 ho.2.2.2
    exact ⟨.fork a T1 T2, ⟨h4.1, ho.1, h4.cell 3 rfl, pl, pr, h4.cell 4 rfl, h4.cell 5 rfl, a1, a2⟩, by simp only [LT.list, List.map_append, b1, b2]; rfl⟩
end Go.Proofs.YtnajpeaieeaflaaDoor.Sha
namespace Go.Proofs.YtnajpeaieeaflaaDoor.Sha
open Go.ChangeShapes Go.WideShapes Go.ChangeAt Go.RowKit
set_option linter.unusedVariables false
set_option linter.unusedSimpArgs false

theorem with_end0 {w w1 w2 : World} {S Sl Sr : Nat → Prop} {p q a pr p' : Nat} {hv : ByteArray} {l' r : Tr} (hw : Below w.heap.size w w1) (hsz : w1.heap.size = w.heap.size) (hp : S p) (h1 : ∀ b, Sl b → S b ∧ b ≠ p) (h2 : ∀ b, Sr b → S b ∧ b ≠ p) (h3 : ∀ b, Sl b → ¬ Sr b) (hS : ∀ b, S b → b < w.heap.size) (hqS : ¬ S q)
    {pl : Nat} (X : Blk w1 p (fkC hv a pl pr)) (hr : Nd w1 Sr pr r) (hn : Nd w2 (fun b => Sl b ∨ b = q ∨ (w1.heap.size ≤ b ∧ b < w2.heap.size)) p' l') (hT : Touch Sl w1 w2) :
    WithR S q (.fork a hv l' r) w (.returned (.pointer (some ⟨p, 0, none⟩))) (w2.setCell ⟨p, 4, none⟩ (.pointer (some ⟨p', 0, none⟩))) := by
  have X2 := X.kept hT (fun e => (h1 p e).2 rfl)
  have XS := X2.set 4 (.pointer (some ⟨p', 0, none⟩)) (by simp [fkC])
  have tp := (Touch.refl (fun b => b = p) w2).setCell ⟨p, 4, none⟩ (.pointer (some ⟨p', 0, none⟩)) (fun _ => rfl)
  have hts := tp.size
  have hps := hS p hp
  have NK := hn.touch tp (fun b hb e => by
    rcases hb with hb | hb | hb
    · exact (h1 b hb).2 e
    · exact hqS (by rw [← hb, e]; exact hp)
    · omega)
  have NO := (hr.touch hT (fun b hb e => h3 b e hb)).touch tp (fun b hb e => (h2 b hb).2 e)
  refine ⟨p, rfl, .fork _ (fun b => Sl b ∨ b = q ∨ (w1.heap.size ≤ b ∧ b < w2.heap.size)) Sr p a hv l' r p' pr (.inl hp) (fun b hb => ?_) (fun b hb => ⟨.inl (h2 b hb).1, (h2 b hb).2⟩) (fun b hb hr' => ?_) XS NK NO, ?_⟩
  · rcases hb with hb | hb | hb
    · exact ⟨.inl (h1 b hb).1, (h1 b hb).2⟩
    · exact ⟨.inr (.inl hb), fun e => hqS (by rw [← hb, e]; exact hp)⟩
    · exact ⟨.inr (.inr ⟨by omega, by omega⟩), by omega⟩
  · rcases hb with hb | hb | hb
    · exact h3 b hb hr'
    · exact hqS (by rw [← hb]; exact (h2 b hr').1)
    · have := hS b (h2 b hr').1
      omega
  · exact ((Touch.ofBelow (T := S) hw).trans hT (fun b _ e => (h1 b e).1)).trans tp (fun b _ e => by rw [e]; exact hp)
theorem with_end1 {w w1 w2 : World} {S Sl Sr : Nat → Prop} {p q a pl p' : Nat} {hv : ByteArray} {l r' : Tr} (hw : Below w.heap.size w w1) (hsz : w1.heap.size = w.heap.size) (hp : S p) (h1 : ∀ b, Sl b → S b ∧ b ≠ p) (h2 : ∀ b, Sr b → S b ∧ b ≠ p) (h3 : ∀ b, Sl b → ¬ Sr b) (hS : ∀ b, S b → b < w.heap.size) (hqS : ¬ S q)
    {pr : Nat} (X : Blk w1 p (fkC hv a pl pr)) (hl : Nd w1 Sl pl l) (hn : Nd w2 (fun b => Sr b ∨ b = q ∨ (w1.heap.size ≤ b ∧ b < w2.heap.size)) p' r') (hT : Touch Sr w1 w2) :
    WithR S q (.fork a hv l r') w (.returned (.pointer (some ⟨p, 0, none⟩))) (w2.setCell ⟨p, 5, none⟩ (.pointer (some ⟨p', 0, none⟩))) := by
  have X2 := X.kept hT (fun e => (h2 p e).2 rfl)
  have XS := X2.set 5 (.pointer (some ⟨p', 0, none⟩)) (by simp [fkC])
  have tp := (Touch.refl (fun b => b = p) w2).setCell ⟨p, 5, none⟩ (.pointer (some ⟨p', 0, none⟩)) (fun _ => rfl)
  have hts := tp.size
  have hps := hS p hp
  have NK := hn.touch tp (fun b hb e => by
    rcases hb with hb | hb | hb
    · exact (h2 b hb).2 e
    · exact hqS (by rw [← hb, e]; exact hp)
    · omega)
  have NO := (hl.touch hT (fun b hb e => h3 b hb e)).touch tp (fun b hb e => (h1 b hb).2 e)
  refine ⟨p, rfl, .fork _ Sl (fun b => Sr b ∨ b = q ∨ (w1.heap.size ≤ b ∧ b < w2.heap.size)) p a hv l r' pl p' (.inl hp) (fun b hb => ⟨.inl (h1 b hb).1, (h1 b hb).2⟩) (fun b hb => ?_) (fun b hl' hb => ?_) XS NO NK, ?_⟩
  · rcases hb with hb | hb | hb
    · exact ⟨.inl (h2 b hb).1, (h2 b hb).2⟩
    · exact ⟨.inr (.inl hb), fun e => hqS (by rw [← hb, e]; exact hp)⟩
    · exact ⟨.inr (.inr ⟨by omega, by omega⟩), by omega⟩
  · rcases hb with hb | hb | hb
    · exact h3 b hl' hb
    · exact hqS (by rw [← hb]; exact (h1 b hl').1)
    · have := hS b (h1 b hl').1
      omega
  · exact ((Touch.ofBelow (T := S) hw).trans hT (fun b _ e => (h2 b e).1)).trans tp (fun b _ e => by rw [e]; exact hp)
end Go.Proofs.YtnajpeaieeaflaaDoor.Sha
namespace Go.Proofs.YtnajpeaieeaflaaDoor.Sha
open Go.ChangeShapes Go.WideShapes Go.ChangeAt Go.RowKit
set_option linter.unusedVariables false
set_option linter.unusedSimpArgs false

theorem lvs_len : ∀ t : Tr, t.lvs.length = t.lvN
  | .leaf _ _ => rfl
  | .fork _ _ l r => by show (l.lvs ++ r.lvs).length = l.lvN + r.lvN; rw [List.length_append, lvs_len l, lvs_len r]
theorem fd_full {x y : ByteArray} (hx : x.size = 32) (hy : y.size = 32) (h : fd x y = 256) : x = y := by
  have hs : ∀ k, k ≤ 32 → ∀ j, j < k → byN x j = byN y j := by
    intro k
    induction k with
    | zero => intro _ j hj; omega
    | succ k ih =>
      intro hk j hj
      by_cases e : j = k
      · subst e
        by_cases hd : byN x j ^^^ byN y j = 0
        · exact Nat.eq_of_testBit_eq fun i => by
            have h1 := congrArg (fun n => n.testBit i) hd
            simp only [Nat.testBit_xor, Nat.zero_testBit] at h1
            generalize (byN x j).testBit i = b1 at *
            generalize (byN y j).testBit i = b2 at *
            cases b1 <;> cases b2 <;> simp_all
        · have h1 := fd_byte x y j (by omega) (ih (by omega)) hd
          have hlt : byN x j ^^^ byN y j < 256 := Nat.xor_lt_two_pow (n := 8) (byN_lt x j) (byN_lt y j)
          have h2 := (bl_bits ⟨byN x j ^^^ byN y j, hlt⟩ hd).1
          dsimp only at h2
          omega
      · exact ih (by omega) j (by omega)
  have hx2 : x.data.toList.length = 32 := by simpa using hx
  have hy2 : y.data.toList.length = 32 := by simpa using hy
  have : x.data.toList = y.data.toList := by
    apply List.ext_getElem?
    intro j
    by_cases hj : j < 32
    · have h1 := hs 32 (Nat.le_refl _) j hj
      unfold byN at h1
      have h2 := UInt8.toNat_inj.1 h1
      rw [List.getD_eq_getElem?_getD, List.getD_eq_getElem?_getD, List.getElem?_eq_getElem (by omega), List.getElem?_eq_getElem (by omega)] at h2
      rw [List.getElem?_eq_getElem (by omega), List.getElem?_eq_getElem (by omega)]
      simpa using h2
    · rw [List.getElem?_eq_none (by omega), List.getElem?_eq_none (by omega)]
  cases x; cases y
  simpa using congrArg List.toArray this
theorem fd_ne {x y : ByteArray} (hx : x.size = 32) (hy : y.size = 32) : fd x y < 256 ↔ x ≠ y := by
  have h := fd_le x y
  constructor
  · intro h1 e
    subst e
    have := fd_same x x (fun _ _ => rfl)
    omega
  · intro h1
    rcases Nat.lt_or_ge (fd x y) 256 with h2 | h2
    · exact h2
    · exact absurd (fd_full hx hy (by omega)) h1
def lvO : Option Tr → Nat
  | none => 0
  | some t => t.lvN
/-- What a map is with a key's value put into it. -/
def putAt (t : Tr) (key : ByteArray) : Nat := fd (kh (leadL (kh key) t).1) (kh key)
def putO (o : Option Tr) (key val : ByteArray) : Tr := match o with
  | none => .leaf key val
  | some t => putT (kh key) (putAt t key) key val t
end Go.Proofs.YtnajpeaieeaflaaDoor.Sha
namespace Go.Proofs.YtnajpeaieeaflaaDoor.Sha
open Go.ChangeShapes Go.WideShapes Go.ChangeAt Go.RowKit
set_option linter.unusedVariables false

theorem fd_alike (x y : ByteArray) (i : Nat) (h : i < fd x y) : bitN x i = bitN y i := (fdF_facts x y 256 0).2.2.1 i (Nat.zero_le _) h
theorem fd_apart (x y : ByteArray) (h : fd x y < 256) : bitN x (fd x y) ≠ bitN y (fd x y) := (fdF_facts x y 256 0).2.2.2 (by unfold fd at h; omega)
theorem Rise.up {m n : Nat} {t : Tr} (h : Rise m t) (hn : n ≤ t.at_) : Rise n t := by
  cases t with
  | leaf k v => exact hn
  | fork a hh l r => exact ⟨hn, h.2⟩
/-- A new leaf beside a map whose hash parts from its own at a bit ahead of the map's. -/
theorem forkT_facts {a m : Nat} {k v : ByteArray} {t : Tr} (ha : a < 256) (hm : m ≤ a) (hat : a < t.at_) (hr : Rise m t) (hs : Sep t) (h1 : ∀ i, i < a → bitN (kh k) i = bitN t.hash i) (h2 : bitN (kh k) a ≠ bitN t.hash a) :
    Rise m (forkT a (kh k) k v t) ∧ Sep (forkT a (kh k) k v t) ∧ (forkT a (kh k) k v t).hash = kh k := by
  have hup : Rise (a + 1) t := hr.up (by omega)
  have hl : Rise (a + 1) (.leaf k v) := show a + 1 ≤ 256 by omega
  unfold forkT
  split
  · rename_i hb
    exact ⟨⟨hm, ha, hl, hup⟩, ⟨fun _ _ => rfl, (fd_iff (kh k) t.hash a ha).2 ⟨h1, h2⟩, hb, trivial, hs⟩, rfl⟩
  · rename_i hb
    have hb2 : bitN t.hash a = 0 := by
      rcases bitN_01 t.hash a with e | e
      · exact e
      · rcases bitN_01 (kh k) a with e' | e'
        · exact absurd e' hb
        · exact absurd (e'.trans e.symm) h2
    exact ⟨⟨hm, ha, hup, hl⟩, ⟨h1, (fd_iff t.hash (kh k) a ha).2 ⟨fun i hi => (h1 i hi).symm, fun e => h2 e.symm⟩, hb2, hs, trivial⟩, rfl⟩
theorem putT_facts (k v : ByteArray) : ∀ (t : Tr) (m : Nat), Rise m t → Sep t → ∀ at_, at_ = fd (kh (leadL (kh k) t).1) (kh k) → m ≤ at_ →
    Rise m (putT (kh k) at_ k v t) ∧ Sep (putT (kh k) at_ k v t) ∧ ∀ i, i < at_ → i < t.at_ → bitN (putT (kh k) at_ k v t).hash i = bitN t.hash i
  | .leaf k' v', m, hr, hs, at_, he, hm => by
    have hle : at_ ≤ 256 := by rw [he]; exact fd_le _ _
    have hal : ∀ i, i < at_ → bitN (kh k) i = bitN (kh k') i := fun i hi => (fd_alike (kh k') (kh k) i (by rw [he] at hi; exact hi)).symm
    unfold putT
    by_cases h256 : at_ = 256
    · rw [if_pos h256]
      exact ⟨show m ≤ 256 by omega, trivial, fun i hi _ => hal i hi⟩
    · rw [if_neg h256]
      have hap : bitN (kh k) at_ ≠ bitN (kh k') at_ := by
        have h9 := fd_apart (kh k') (kh k) (by have h8 : at_ = fd (kh k') (kh k) := he; omega)
        have h8 : at_ = fd (kh k') (kh k) := he
        rw [← h8] at h9
        exact fun e => h9 e.symm
      obtain ⟨f1, f2, f3⟩ := forkT_facts (v := v) (t := .leaf k' v') (m := m) (show at_ < 256 by omega) hm (show at_ < 256 by omega) hr hs hal hap
      exact ⟨f1, f2, fun i hi _ => by rw [f3]; exact hal i hi⟩
  | .fork a hh l r, m, hr, hs, at_, he, hm => by
    have hbit := lead_bit (kh k) hr hs
    have hlike := lead_alike (kh k) (.fork a hh l r) m hr hs
    have hr' := hr
    have hs' := hs
    obtain ⟨r0, r1, r2, r3⟩ := hr
    obtain ⟨s0, s1, s2, s3, s4⟩ := hs
    have hll := r2.le
    have hrl := r3.le
    have hfd := (fd_iff l.hash r.hash a r1).1 s1
    have hne : at_ ≠ a := fun e => by
      have h9 := fd_apart (kh (leadL (kh k) (.fork a hh l r)).1) (kh k) (by rw [← he, e]; exact r1)
      rw [← he, e] at h9
      exact h9 hbit
    unfold putT
    by_cases hlt : a < at_
    · rw [if_pos hlt]
      by_cases hb : bitN (kh k) a = 0
      · rw [if_pos hb]
        have hel : at_ = fd (kh (leadL (kh k) l).1) (kh k) := by rw [he]; conv => lhs; unfold leadL; rw [if_pos hb]
        obtain ⟨f1, f2, f3⟩ := putT_facts k v l (a + 1) r2 s3 at_ hel (by omega)
        have g : ∀ i, i ≤ a → bitN (putT (kh k) at_ k v l).hash i = bitN l.hash i := fun i hi => f3 i (by omega) (by omega)
        refine ⟨⟨r0, r1, f1, r3⟩, ⟨fun i hi => by rw [g i (by omega)]; exact s0 i hi, (fd_iff _ _ a r1).2 ⟨fun i hi => by rw [g i (by omega)]; exact hfd.1 i hi, by rw [g a (Nat.le_refl _)]; exact hfd.2⟩, by rw [g a (Nat.le_refl _)]; exact s2, f2, s4⟩, fun i _ _ => rfl⟩
      · rw [if_neg hb]
        have hel : at_ = fd (kh (leadL (kh k) r).1) (kh k) := by rw [he]; conv => lhs; unfold leadL; rw [if_neg hb]
        obtain ⟨f1, f2, f3⟩ := putT_facts k v r (a + 1) r3 s4 at_ hel (by omega)
        have g : ∀ i, i ≤ a → bitN (putT (kh k) at_ k v r).hash i = bitN r.hash i := fun i hi => f3 i (by omega) (by omega)
        refine ⟨⟨r0, r1, r2, f1⟩, ⟨s0, (fd_iff _ _ a r1).2 ⟨fun i hi => by rw [g i (by omega)]; exact hfd.1 i hi, by rw [g a (Nat.le_refl _)]; exact hfd.2⟩, s2, s3, f2⟩, fun i _ _ => rfl⟩
    · rw [if_neg hlt]
      have hal : ∀ i, i < at_ → bitN (kh k) i = bitN hh i := fun i hi => by
        rw [← fd_alike (kh (leadL (kh k) (.fork a hh l r)).1) (kh k) i (by rw [← he]; exact hi)]
        exact hlike i (show i < a by omega)
      have hap : bitN (kh k) at_ ≠ bitN hh at_ := by
        have h9 := fd_apart (kh (leadL (kh k) (.fork a hh l r)).1) (kh k) (by rw [← he]; omega)
        rw [← he] at h9
        rw [hlike at_ (show at_ < a by omega)] at h9
        exact fun e => h9 e.symm
      obtain ⟨f1, f2, f3⟩ := forkT_facts (v := v) (t := .fork a hh l r) (m := m) (show at_ < 256 by omega) hm (show at_ < a by omega) hr' hs' hal hap
      exact ⟨f1, f2, fun i hi _ => by rw [f3]; exact hal i hi⟩
theorem putO_rise {o : Option Tr} (key val : ByteArray) (hr : RiseO o) (hs : SepO o) : RiseO (some (putO o key val)) ∧ Sep (putO o key val) := by
  cases o with
  | none => exact ⟨Nat.zero_le _, trivial⟩
  | some t =>
    have h := putT_facts key val t 0 hr hs.1 (putAt t key) rfl (Nat.zero_le _)
    exact ⟨h.1, h.2.1⟩
/-- What is left of a map without a key's leaf. -/
def DropF (m : Nat) (t : Tr) : Option Tr → Prop
  | none => True
  | some t' => Rise m t' ∧ Sep t' ∧ ∀ i, i < t.at_ → bitN t'.hash i = bitN t.hash i
theorem dropT_facts (h : ByteArray) : ∀ (t : Tr) (m : Nat), Rise m t → Sep t → DropF m t (dropT h t)
  | .leaf k v, m, hr, hs => trivial
  | .fork a hh l r, m, hr, hs => by
    obtain ⟨r0, r1, r2, r3⟩ := hr
    obtain ⟨s0, s1, s2, s3, s4⟩ := hs
    have hll := r2.le
    have hrl := r3.le
    have hfd := (fd_iff l.hash r.hash a r1).1 s1
    have i1 := dropT_facts h l (a + 1) r2 s3
    have i2 := dropT_facts h r (a + 1) r3 s4
    unfold dropT
    split
    · cases hd : dropT h l with
      | none => exact ⟨r3.up (by omega), s4, fun i hi => ((s0 i hi).trans (hfd.1 i hi)).symm⟩
      | some l' =>
        rw [hd] at i1
        obtain ⟨f1, f2, f3⟩ := i1
        have g : ∀ i, i ≤ a → bitN l'.hash i = bitN l.hash i := fun i hi => f3 i (by omega)
        exact ⟨⟨r0, r1, f1, r3⟩, ⟨fun i hi => by rw [g i (by omega)]; exact s0 i hi, (fd_iff _ _ a r1).2 ⟨fun i hi => by rw [g i (by omega)]; exact hfd.1 i hi, by rw [g a (Nat.le_refl _)]; exact hfd.2⟩, by rw [g a (Nat.le_refl _)]; exact s2, f2, s4⟩, fun i _ => rfl⟩
    · cases hd : dropT h r with
      | none => exact ⟨r2.up (by omega), s3, fun i hi => (s0 i hi).symm⟩
      | some r' =>
        rw [hd] at i2
        obtain ⟨f1, f2, f3⟩ := i2
        have g : ∀ i, i ≤ a → bitN r'.hash i = bitN r.hash i := fun i hi => f3 i (by omega)
        exact ⟨⟨r0, r1, r2, f1⟩, ⟨s0, (fd_iff _ _ a r1).2 ⟨fun i hi => by rw [g i (by omega)]; exact hfd.1 i hi, by rw [g a (Nat.le_refl _)]; exact hfd.2⟩, s2, s3, f2⟩, fun i _ => rfl⟩
end Go.Proofs.YtnajpeaieeaflaaDoor.Sha
