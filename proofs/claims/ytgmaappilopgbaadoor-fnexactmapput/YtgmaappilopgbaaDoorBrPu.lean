/- A leaf put into a map, pure; newFork over a map; (*mapNode).with. -/
import Derived.Test.YtgmaappilopgbaaDoorBrV
import Derived.Deep.RegionLaw
import Derived.Deep.QuietTactic
import Derived.BigQuiet
namespace Go.Proofs.YtgmaappilopgbaaDoor.Sha
open Go.ChangeShapes Go.WideShapes Go.ChangeAt Go.RowKit
set_option linter.unusedVariables false
set_option linter.unusedSimpArgs false

/-- How many leaves. -/
def Tr.lvN : Tr → Nat
  | .leaf _ _ => 1
  | .fork _ _ l r => l.lvN + r.lvN
/-- Hashes below a fork: alike ahead of its bit, the first kid's with 0 there. -/
def Sep : Tr → Prop
  | .leaf _ _ => True
  | .fork a h l r => h = l.hash ∧ fd l.hash r.hash = a ∧ bitN l.hash a = 0 ∧ Sep l ∧ Sep r
theorem readV_sep : ∀ (n : Nat) (b : Br), SizeOf.sizeOf b ≤ n → ∀ (least : Int) (room : Nat) (t : Tr) (r : Nat), readV b least room = some (t, r) → Sep t ∧ r + t.lvN = room := by
  intro n
  induction n with
  | zero => intro b hb; exact absurd hb (by cases b; simp only [Br.mk.sizeOf_spec]; omega)
  | succ n ih =>
    intro b hb least room t r h
    obtain ⟨k, v, a, ks⟩ := b
    by_cases ha : a = 256
    · rw [readV_leaf ha] at h
      split at h
      · rename_i hc
        cases h
        exact ⟨trivial, by show room - 1 + 1 = room; omega⟩
      · cases h
    · by_cases hc : least ≤ a ∧ a ≤ 255 ∧ ks.length = 2 ∧ k.size = 0 ∧ v.size = 0
      · obtain ⟨b0, b1, rfl⟩ := two_of hc.2.2.1
        rw [readV_fork ⟨hc.1, hc.2.1, hc.2.2.2.1, hc.2.2.2.2⟩] at h
        have z0 := kid_lt (k := k) (v := v) (a := a) (l := [b0, b1]) (b := b0) (by simp)
        have z1 := kid_lt (k := k) (v := v) (a := a) (l := [b0, b1]) (b := b1) (by simp)
        cases h0 : readV b0 (a + 1) room with
        | none => rw [h0] at h; cases h
        | some p0 =>
          obtain ⟨t0, r0⟩ := p0
          rw [h0] at h
          dsimp only at h
          cases h1 : readV b1 (a + 1) r0 with
          | none => rw [h1] at h; cases h
          | some p1 =>
            obtain ⟨t1, r1⟩ := p1
            rw [h1] at h
            dsimp only at h
            split at h
            · rename_i hf
              cases h
              obtain ⟨e0, n0⟩ := ih b0 (by omega) _ _ _ _ h0
              obtain ⟨e1, n1⟩ := ih b1 (by omega) _ _ _ _ h1
              exact ⟨⟨rfl, hf.1, hf.2, e0, e1⟩, by show r + (t0.lvN + t1.lvN) = room; omega⟩
            · cases h
      · rw [readV_no ha hc] at h; cases h
def SepO : Option Tr → Prop
  | none => True
  | some t => Sep t ∧ t.lvN ≤ 40
theorem mapV_sep {b : Br} {o : Option Tr} (h : mapV b = some o) : SepO o := by
  unfold mapV at h
  split at h
  · cases h; trivial
  · cases hr : readV b 0 40 with
    | none => rw [hr] at h; cases h
    | some p =>
      obtain ⟨t, r⟩ := p
      rw [hr] at h
      cases h
      obtain ⟨h1, h2⟩ := readV_sep _ b (Nat.le_refl _) 0 40 t r hr
      exact ⟨h1, by omega⟩
theorem fdF_comm (x y : ByteArray) : ∀ n i, fdF x y n i = fdF y x n i
  | 0, i => rfl
  | n + 1, i => by
    unfold fdF
    by_cases h : bitN x i = bitN y i
    · rw [if_pos h, if_pos h.symm, fdF_comm x y n]
    · rw [if_neg h, if_neg (fun e => h e.symm)]
theorem fd_comm (x y : ByteArray) : fd x y = fd y x := fdF_comm x y 256 0
theorem lead_alike (h : ByteArray) : ∀ (t : Tr) (m : Nat), Rise m t → Sep t → ∀ i, i < t.at_ → bitN (kh (leadL h t).1) i = bitN t.hash i
  | .leaf k v, m, hr, hs, i, hi => rfl
  | .fork a hh l r, m, hr, hs, i, hi => by
    obtain ⟨r0, r1, r2, r3⟩ := hr
    obtain ⟨s0, s1, s2, s3, s4⟩ := hs
    have hi' : i < a := hi
    have hl := r2.le
    have hrr := r3.le
    unfold leadL
    split
    · rw [lead_alike h l _ r2 s3 i (by omega)]
      show _ = bitN hh i
      rw [s0]
    · rw [lead_alike h r _ r3 s4 i (by omega)]
      show _ = bitN hh i
      rw [s0]
      exact (((fd_iff l.hash r.hash a r1).1 s1).1 i hi').symm
theorem lead_bit (h : ByteArray) {a : Nat} {hh : ByteArray} {l r : Tr} {m : Nat} (hr : Rise m (.fork a hh l r)) (hs : Sep (.fork a hh l r)) : bitN (kh (leadL h (.fork a hh l r)).1) a = bitN h a := by
  obtain ⟨r0, r1, r2, r3⟩ := hr
  obtain ⟨s0, s1, s2, s3, s4⟩ := hs
  have hl := r2.le
  have hrr := r3.le
  unfold leadL
  split
  · rename_i hb
    rw [lead_alike h l _ r2 s3 a (by omega), s2, hb]
  · rename_i hb
    rw [lead_alike h r _ r3 s4 a (by omega)]
    have h1 := ((fd_iff l.hash r.hash a r1).1 s1).2
    rcases bitN_01 r.hash a with e | e
    · exact absurd (s2.trans e.symm) h1
    · rcases bitN_01 h a with e' | e'
      · exact absurd e' hb
      · rw [e, e']
/-- A fork of a new leaf and a map. -/
def forkT (a : Nat) (h k v : ByteArray) (t : Tr) : Tr := if bitN h a = 0 then .fork a h (.leaf k v) t else .fork a h t (.leaf k v)
/-- The map with a leaf. -/
def putT (h : ByteArray) (at_ : Nat) (k v : ByteArray) : Tr → Tr
  | .leaf k' v' => if at_ = 256 then .leaf k v else forkT at_ h k v (.leaf k' v')
  | .fork a hh l r => if a < at_ then (if bitN h a = 0 then .fork a hh (putT h at_ k v l) r else .fork a hh l (putT h at_ k v r)) else forkT at_ h k v (.fork a hh l r)
theorem forkT_ok {a : Nat} {h k v : ByteArray} {t : Tr} (ha : a < 256) (hh : h.size = 32) (hk : okK k = true) (hv : v.size ≤ 60) (ht : TrOK t) : TrOK (forkT a h k v t) := by
  unfold forkT; split
  · exact ⟨ha, hh, ⟨hk, hv⟩, ht⟩
  · exact ⟨ha, hh, ht, ⟨hk, hv⟩⟩
theorem putT_ok (h : ByteArray) (a : Nat) (k v : ByteArray) (ha : a ≤ 256) (hh : h.size = 32) (hk : okK k = true) (hv : v.size ≤ 60) : ∀ t, TrOK t → TrOK (putT h a k v t)
  | .leaf k' v', ho => by
    unfold putT; split
    · exact ⟨hk, hv⟩
    · exact forkT_ok (by omega) hh hk hv ho
  | .fork b hb l r, ho => by
    unfold putT; split
    · split
      · exact ⟨ho.1, ho.2.1, putT_ok h a k v ha hh hk hv l ho.2.2.1, ho.2.2.2⟩
      · exact ⟨ho.1, ho.2.1, ho.2.2.1, putT_ok h a k v ha hh hk hv r ho.2.2.2⟩
    · exact forkT_ok (by have := ho.1; omega) hh hk hv ho
/-- What with answers: the nodes that were there, the leaf's, and new ones. -/
def WithR (S : Nat → Prop) (q : Nat) (t : Tr) (w : World) (e : Ending) (w' : World) : Prop := ∃ p, e = .returned (.pointer (some ⟨p, 0, none⟩)) ∧ Nd w' (fun b => S b ∨ b = q ∨ (w.heap.size ≤ b ∧ b < w'.heap.size)) p t ∧ Touch S w w'
theorem newFork_nd {w : World} {S : Nat → Prop} {p q a : Nat} {t : Tr} {k v : ByteArray} (hn : Nd w S p t) (ho : t.hash.size = 32) (hS : ∀ b, S b → b < w.heap.size) (hq : Blk w q (lfC k v)) (hqS : ¬ S q) (hk : k.size ≤ 65536) (ha : a < 256) (hxy : bitN (kh k) a ≠ bitN t.hash a) :
    Calls Tryd.prog 113 #[.int .i64 a, .pointer (some ⟨q, 0, none⟩), .pointer (some ⟨p, 0, none⟩)] w fun e w' => WithR S q (forkT a (kh k) k v t) w e w' := by
  refine (newFork_any a q p (kh k) t.hash w ha (kh_size hk) ho hxy hq.1 hn.here.2 (hq.cell 2 rfl) hn.hashC).mono ?_
  rintro e w' ⟨f, rfl, hf, hB, hb⟩
  have hq' := hq.1
  have hnq := hq.below hb
  have hnn := hn.blw hb
  refine ⟨f, rfl, ?_, Touch.ofBelow hb⟩
  have hfl := hB.1
  unfold forkT
  unfold kidsV at hB
  by_cases hb0 : bitN (kh k) a = 0
  · rw [if_pos hb0] at hB ⊢
    exact .fork _ (fun b => b = q) S f a (kh k) (.leaf k v) t q p (.inr (.inr ⟨hf, hfl⟩)) (fun b e => ⟨.inr (.inl e), by omega⟩) (fun b e => ⟨.inl e, by have := hS b e; omega⟩) (fun b e h => hqS (e ▸ h)) hB (.leaf _ q k v rfl hnq) hnn
  · rw [if_neg hb0] at hB ⊢
    exact .fork _ S (fun b => b = q) f a (kh k) t (.leaf k v) p q (.inr (.inr ⟨hf, hfl⟩)) (fun b e => ⟨.inl e, by have := hS b e; omega⟩) (fun b e => ⟨.inr (.inl e), by omega⟩) (fun b e h => hqS (h ▸ e)) hB hnn (.leaf _ q k v rfl hnq)
theorem hash_of_ok {t : Tr} (h : TrOK t) : t.hash.size = 32 := by
  cases t with
  | leaf k v => exact kh_size (by have := (okK_iff.1 h.1).2; omega)
  | fork a hh l r => exact h.2.1
end Go.Proofs.YtgmaappilopgbaaDoor.Sha
