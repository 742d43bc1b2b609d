/- A leaf put into a map, pure; newFork over a map; (*mapNode).with. (*mapNode).with. The leaves of a map, ranged over as a function: visit, leaves, size. The worst of two codes: worstFault. impl.MapPut. -/
import Derived.Test.YtcmdilmjdnbfkaaDoorBrV
import Derived.Deep.RegionLaw
import Derived.Deep.QuietTactic
import Derived.BigQuiet
import Derived.RangeFuncNested
import Derived.RangeFuncBound
import Derived.RangeFuncCalls
import Derived.RangeFuncLeaves
import Derived.RangeFuncFrom
import Derived.Shelf.Abstract
import Derived.Shelf.RegionOpen
import Derived.WalkKit
import Derived.OwnWalkIn
import Derived.TacticsInMore
import Derived.LoopNIn
import Derived.LoopIn
import Derived.Test.YtcmdilmjdnbfkaaDoorBrBh
import Derived.Test.YtcmdilmjdnbfkaaDoorBytes
import Derived.Test.YtcmdilmjdnbfkaaDoorGpA
import Derived.Deep.DeepCutAuto
namespace Go.Proofs.YtcmdilmjdnbfkaaDoor.Sha
open Go.ChangeShapes Go.WideShapes Go.ChangeAt Go.RowKit
set_option linter.unusedVariables false
set_option linter.unusedSimpArgs false

/-- How many leaves. -/
def Tr.lvN : Tr → Nat
  | .leaf _ _ => 1
  | .fork _ _ l r => l.lvN + r.lvN
/-- Hashes below a fork: alike ahead of its bit, the first kid's with 0 there. -/
def Sep : Tr → Prop
  | .leaf _ _ => True
  | .fork a h l r => h = l.hash ∧ fd l.hash r.hash = a ∧ bitN l.hash a = 0 ∧ Sep l ∧ Sep r
theorem readV_sep : ∀ (n : Nat) (b : Br), SizeOf.sizeOf b ≤ n → ∀ (least : Int) (room : Nat) (t : Tr) (r : Nat), readV b least room = some (t, r) → Sep t ∧ r + t.lvN = room := by
  intro n
  induction n with
  | zero => intro b hb; exact absurd hb (by cases b; simp only [Br.mk.sizeOf_spec]; omega)
  | succ n ih =>
    intro b hb least room t r h
    obtain ⟨k, v, a, ks⟩ := b
    by_cases ha : a = 256
    · rw [readV_leaf ha] at h
      split at h
      · rename_i hc
        cases h
        exact ⟨trivial, by show room - 1 + 1 = room; omega⟩
      · cases h
    · by_cases hc : least ≤ a ∧ a ≤ 255 ∧ ks.length = 2 ∧ k.size = 0 ∧ v.size = 0
      · obtain ⟨b0, b1, rfl⟩ := two_of hc.2.2.1
        rw [readV_fork ⟨hc.1, hc.2.1, hc.2.2.2.1, hc.2.2.2.2⟩] at h
        have z0 := kid_lt (k := k) (v := v) (a := a) (l := [b0, b1]) (b := b0) (by simp)
        have z1 := kid_lt (k := k) (v := v) (a := a) (l := [b0, b1]) (b := b1) (by simp)
        cases h0 : readV b0 (a + 1) room with
        | none => rw [h0] at h; cases h
        | some p0 =>
          obtain ⟨t0, r0⟩ := p0
          rw [h0] at h
          dsimp only at h
          cases h1 : readV b1 (a + 1) r0 with
          | none => rw [h1] at h; cases h
          | some p1 =>
            obtain ⟨t1, r1⟩ := p1
            rw [h1] at h
            dsimp only at h
            split at h
            · rename_i hf
              cases h
              obtain ⟨e0, n0⟩ := ih b0 (by omega) _ _ _ _ h0
              obtain ⟨e1, n1⟩ := ih b1 (by omega) _ _ _ _ h1
              exact ⟨⟨rfl, hf.1, hf.2, e0, e1⟩, by show r + (t0.lvN + t1.lvN) = room; omega⟩
            · cases h
      · rw [readV_no ha hc] at h; cases h
def SepO : Option Tr → Prop
  | none => True
  | some t => Sep t ∧ t.lvN ≤ 40
theorem mapV_sep {b : Br} {o : Option Tr} (h : mapV b = some o) : SepO o := by
  unfold mapV at h
  split at h
  · cases h; trivial
  · cases hr : readV b 0 40 with
    | none => rw [hr] at h; cases h
    | some p =>
      obtain ⟨t, r⟩ := p
      rw [hr] at h
      cases h
      obtain ⟨h1, h2⟩ := readV_sep _ b (Nat.le_refl _) 0 40 t r hr
      exact ⟨h1, by omega⟩
theorem fdF_comm (x y : ByteArray) : ∀ n i, fdF x y n i = fdF y x n i
  | 0, i => rfl
  | n + 1, i => by
    unfold fdF
    by_cases h : bitN x i = bitN y i
    · rw [if_pos h, if_pos h.symm, fdF_comm x y n]
    · rw [if_neg h, if_neg (fun e => h e.symm)]
theorem fd_comm (x y : ByteArray) : fd x y = fd y x := fdF_comm x y 256 0
theorem lead_alike (h : ByteArray) : ∀ (t : Tr) (m : Nat), Rise m t → Sep t → ∀ i, i < t.at_ → bitN (kh (leadL h t).1) i = bitN t.hash i
  | .leaf k v, m, hr, hs, i, hi => rfl
  | .fork a hh l r, m, hr, hs, i, hi => by
    obtain ⟨r0, r1, r2, r3⟩ := hr
    obtain ⟨s0, s1, s2, s3, s4⟩ := hs
    have hi' : i < a := hi
    have hl := r2.le
    have hrr := r3.le
    unfold leadL
    split
    · rw [lead_alike h l _ r2 s3 i (by omega)]
      show _ = bitN hh i
      rw [s0]
    · rw [lead_alike h r _ r3 s4 i (by omega)]
      show _ = bitN hh i
      rw [s0]
      exact (((fd_iff l.hash r.hash a r1).1 s1).1 i hi').symm
theorem lead_bit (h : ByteArray) {a : Nat} {hh : ByteArray} {l r : Tr} {m : Nat} (hr : Rise m (.fork a hh l r)) (hs : Sep (.fork a hh l r)) : bitN (kh (leadL h (.fork a hh l r)).1) a = bitN h a := by
  obtain ⟨r0, r1, r2, r3⟩ := hr
  obtain ⟨s0, s1, s2, s3, s4⟩ := hs
  have hl := r2.le
  have hrr := r3.le
  unfold leadL
  split
  · rename_i hb
    rw [lead_alike h l _ r2 s3 a (by omega), s2, hb]
  · rename_i hb
    rw [lead_alike h r _ r3 s4 a (by omega)]
    have h1 := ((fd_iff l.hash r.hash a r1).1 s1).2
    rcases bitN_01 r.hash a with e | e
    · exact absurd (s2.trans e.symm) h1
    · rcases bitN_01 h a with e' | e'
      · exact absurd e' hb
      · rw [e, e']
/-- A fork of a new leaf and a map. -/
def forkT (a : Nat) (h k v : ByteArray) (t : Tr) : Tr := if bitN h a = 0 then .fork a h (.leaf k v) t else .fork a h t (.leaf k v)
/-- The map with a leaf. -/
def putT (h : ByteArray) (at_ : Nat) (k v : ByteArray) : Tr → Tr
  | .leaf k' v' => if at_ = 256 then .leaf k v else forkT at_ h k v (.leaf k' v')
  | .fork a hh l r => if a < at_ then (if bitN h a = 0 then .fork a hh (putT h at_ k v l) r else .fork a hh l (putT h at_ k v r)) else forkT at_ h k v (.fork a hh l r)
theorem forkT_ok {a : Nat} {h k v : ByteArray} {t : Tr} (ha : a < 256) (hh : h.size = 32) (hk : okK k = true) (hv : v.size ≤ 60) (ht : TrOK t) : TrOK (forkT a h k v t) := by
  unfold forkT; split
  · exact ⟨ha, hh, ⟨hk, hv⟩, ht⟩
  · exact ⟨ha, hh, ht, ⟨hk, hv⟩⟩
theorem putT_ok (h : ByteArray) (a : Nat) (k v : ByteArray) (ha : a ≤ 256) (hh : h.size = 32) (hk : okK k = true) (hv : v.size ≤ 60) : ∀ t, TrOK t → TrOK (putT h a k v t)
  | .leaf k' v', ho => by
    unfold putT; split
    · exact ⟨hk, hv⟩
    · exact forkT_ok (by omega) hh hk hv ho
  | .fork b hb l r, ho => by
    unfold putT; split
    · split
      · exact ⟨ho.1, ho.2.1, putT_ok h a k v ha hh hk hv l ho.2.2.1, ho.2.2.2⟩
      · exact ⟨ho.1, ho.2.1, ho.2.2.1, putT_ok h a k v ha hh hk hv r ho.2.2.2⟩
    · exact forkT_ok (by have := ho.1; omega) hh hk hv ho
/-- What with answers: the nodes that were there, the leaf's, and new ones. -/
def WithR (S : Nat → Prop) (q : Nat) (t : Tr) (w : World) (e : Ending) (w' : World) : Prop := ∃ p, e = .returned (.pointer (some ⟨p, 0, none⟩)) ∧ Nd w' (fun b => S b ∨ b = q ∨ (w.heap.size ≤ b ∧ b < w'.heap.size)) p t ∧ Touch S w w'
theorem newFork_nd {w : World} {S : Nat → Prop} {p q a : Nat} {t : Tr} {k v : ByteArray} (hn : Nd w S p t) (ho : t.hash.size = 32) (hS : ∀ b, S b → b < w.heap.size) (hq : Blk w q (lfC k v)) (hqS : ¬ S q) (hk : k.size ≤ 65536) (ha : a < 256) (hxy : bitN (kh k) a ≠ bitN t.hash a) :
    Calls Tryd.prog 89 #[.int .i64 a, .pointer (some ⟨q, 0, none⟩), .pointer (some ⟨p, 0, none⟩)] w fun e w' => WithR S q (forkT a (kh k) k v t) w e w' := by
  refine (newFork_any a q p (kh k) t.hash w ha (kh_size hk) ho hxy hq.1 hn.here.2 (hq.cell 2 rfl) hn.hashC).mono ?_
  rintro e w' ⟨f, rfl, hf, hB, hb⟩
  have hq' := hq.1
  have hnq := hq.below hb
  have hnn := hn.blw hb
  refine ⟨f, rfl, ?_, Touch.ofBelow hb⟩
  have hfl := hB.1
  unfold forkT
  unfold kidsV at hB
  by_cases hb0 : bitN (kh k) a = 0
  · rw [if_pos hb0] at hB ⊢
    exact .fork _ (fun b => b = q) S f a (kh k) (.leaf k v) t q p (.inr (.inr ⟨hf, hfl⟩)) (fun b e => ⟨.inr (.inl e), by omega⟩) (fun b e => ⟨.inl e, by have := hS b e; omega⟩) (fun b e h => hqS (e ▸ h)) hB (.leaf _ q k v rfl hnq) hnn
  · rw [if_neg hb0] at hB ⊢
    exact .fork _ S (fun b => b = q) f a (kh k) t (.leaf k v) p q (.inr (.inr ⟨hf, hfl⟩)) (fun b e => ⟨.inl e, by have := hS b e; omega⟩) (fun b e => ⟨.inr (.inl e), by omega⟩) (fun b e h => hqS (h ▸ e)) hB hnn (.leaf _ q k v rfl hnq)
theorem hash_of_ok {t : Tr} (h : TrOK t) : t.hash.size = 32 := by
  cases t with
  | leaf k v => exact kh_size (by have := (okK_iff.1 h.1).2; omega)
  | fork a hh l r => exact h.2.1
end Go.Proofs.YtcmdilmjdnbfkaaDoor.Sha
namespace Go.Proofs.YtcmdilmjdnbfkaaDoor.Sha
open Go.ChangeShapes Go.WideShapes Go.ChangeAt Go.RowKit
set_option linter.unusedVariables false
set_option linter.unusedSimpArgs false

theorem with_end0 {w w1 w2 : World} {S Sl Sr : Nat → Prop} {p q a pr p' : Nat} {hv : ByteArray} {l' r : Tr} (hw : Below w.heap.size w w1) (hsz : w1.heap.size = w.heap.size) (hp : S p) (h1 : ∀ b, Sl b → S b ∧ b ≠ p) (h2 : ∀ b, Sr b → S b ∧ b ≠ p) (h3 : ∀ b, Sl b → ¬ Sr b) (hS : ∀ b, S b → b < w.heap.size) (hqS : ¬ S q)
    {pl : Nat} (X : Blk w1 p (fkC hv a pl pr)) (hr : Nd w1 Sr pr r) (hn : Nd w2 (fun b => Sl b ∨ b = q ∨ (w1.heap.size ≤ b ∧ b < w2.heap.size)) p' l') (hT : Touch Sl w1 w2) :
    WithR S q (.fork a hv l' r) w (.returned (.pointer (some ⟨p, 0, none⟩))) (w2.setCell ⟨p, 4, none⟩ (.pointer (some ⟨p', 0, none⟩))) := by
  have X2 := X.kept hT (fun e => (h1 p e).2 rfl)
  have XS := X2.set 4 (.pointer (some ⟨p', 0, none⟩)) (by simp [fkC])
  have tp := (Touch.refl (fun b => b = p) w2).setCell ⟨p, 4, none⟩ (.pointer (some ⟨p', 0, none⟩)) (fun _ => rfl)
  have hts := tp.size
  have hps := hS p hp
  have NK := hn.touch tp (fun b hb e => by
    rcases hb with hb | hb | hb
    · exact (h1 b hb).2 e
    · exact hqS (by rw [← hb, e]; exact hp)
    · omega)
  have NO := (hr.touch hT (fun b hb e => h3 b e hb)).touch tp (fun b hb e => (h2 b hb).2 e)
  refine ⟨p, rfl, .fork _ (fun b => Sl b ∨ b = q ∨ (w1.heap.size ≤ b ∧ b < w2.heap.size)) Sr p a hv l' r p' pr (.inl hp) (fun b hb => ?_) (fun b hb => ⟨.inl (h2 b hb).1, (h2 b hb).2⟩) (fun b hb hr' => ?_) XS NK NO, ?_⟩
  · rcases hb with hb | hb | hb
    · exact ⟨.inl (h1 b hb).1, (h1 b hb).2⟩
    · exact ⟨.inr (.inl hb), fun e => hqS (by rw [← hb, e]; exact hp)⟩
    · exact ⟨.inr (.inr ⟨by omega, by omega⟩), by omega⟩
  · rcases hb with hb | hb | hb
    · exact h3 b hb hr'
    · exact hqS (by rw [← hb]; exact (h2 b hr').1)
    · have := hS b (h2 b hr').1
      omega
  · exact ((Touch.ofBelow (T := S) hw).trans hT (fun b _ e => (h1 b e).1)).trans tp (fun b _ e => by rw [e]; exact hp)
theorem with_end1 {w w1 w2 : World} {S Sl Sr : Nat → Prop} {p q a pl p' : Nat} {hv : ByteArray} {l r' : Tr} (hw : Below w.heap.size w w1) (hsz : w1.heap.size = w.heap.size) (hp : S p) (h1 : ∀ b, Sl b → S b ∧ b ≠ p) (h2 : ∀ b, Sr b → S b ∧ b ≠ p) (h3 : ∀ b, Sl b → ¬ Sr b) (hS : ∀ b, S b → b < w.heap.size) (hqS : ¬ S q)
    {pr : Nat} (X : Blk w1 p (fkC hv a pl pr)) (hl : Nd w1 Sl pl l) (hn : Nd w2 (fun b => Sr b ∨ b = q ∨ (w1.heap.size ≤ b ∧ b < w2.heap.size)) p' r') (hT : Touch Sr w1 w2) :
    WithR S q (.fork a hv l r') w (.returned (.pointer (some ⟨p, 0, none⟩))) (w2.setCell ⟨p, 5, none⟩ (.pointer (some ⟨p', 0, none⟩))) := by
  have X2 := X.kept hT (fun e => (h2 p e).2 rfl)
  have XS := X2.set 5 (.pointer (some ⟨p', 0, none⟩)) (by simp [fkC])
  have tp := (Touch.refl (fun b => b = p) w2).setCell ⟨p, 5, none⟩ (.pointer (some ⟨p', 0, none⟩)) (fun _ => rfl)
  have hts := tp.size
  have hps := hS p hp
  have NK := hn.touch tp (fun b hb e => by
    rcases hb with hb | hb | hb
    · exact (h2 b hb).2 e
    · exact hqS (by rw [← hb, e]; exact hp)
    · omega)
  have NO := (hl.touch hT (fun b hb e => h3 b hb e)).touch tp (fun b hb e => (h1 b hb).2 e)
  refine ⟨p, rfl, .fork _ Sl (fun b => Sr b ∨ b = q ∨ (w1.heap.size ≤ b ∧ b < w2.heap.size)) p a hv l r' pl p' (.inl hp) (fun b hb => ⟨.inl (h1 b hb).1, (h1 b hb).2⟩) (fun b hb => ?_) (fun b hl' hb => ?_) XS NO NK, ?_⟩
  · rcases hb with hb | hb | hb
    · exact ⟨.inl (h2 b hb).1, (h2 b hb).2⟩
    · exact ⟨.inr (.inl hb), fun e => hqS (by rw [← hb, e]; exact hp)⟩
    · exact ⟨.inr (.inr ⟨by omega, by omega⟩), by omega⟩
  · rcases hb with hb | hb | hb
    · exact h3 b hl' hb
    · exact hqS (by rw [← hb]; exact (h1 b hl').1)
    · have := hS b (h1 b hl').1
      omega
  · exact ((Touch.ofBelow (T := S) hw).trans hT (fun b _ e => (h2 b e).1)).trans tp (fun b _ e => by rw [e]; exact hp)
set_option maxRecDepth 100000 in
set_option maxHeartbeats 4000000 in
theorem with_any (k v : ByteArray) (at_ : Nat) (hat : at_ ≤ 256) (hk : k.size ≤ 65536) : ∀ (t : Tr) (m : Nat) (w : World) (S : Nat → Prop) (p q : Nat), Nd w S p t → Rise m t → Sep t → TrOK t → (∀ b, S b → b < w.heap.size) → Blk w q (lfC k v) → ¬ S q → at_ = fd (kh (leadL (kh k) t).1) (kh k) →
    Calls Tryd.prog 67 #[.pointer (some ⟨p, 0, none⟩), .pointer (some ⟨q, 0, none⟩), .int .i64 at_] w fun e w' => WithR S q (putT (kh k) at_ k v t) w e w' := by
  intro t
  induction t with
  | leaf k' v' =>
    intro m w S p q hn hr hs ho hS hq hqS hfd
    have HNF := hide (fun (ha : at_ < 256) => newFork_nd (a := at_) hn (hash_of_ok ho) hS hq hqS hk ha (by
      have h1 := ((fd_iff (kh (leadL (kh k) (.leaf k' v')).1) (kh k) at_ ha).1 hfd.symm).2
      exact fun e => h1 e.symm))
    cases hn with
    | leaf S p k' v' h0 h1 =>
      have x3 := h1.cell 3 rfl
      by_cases h256 : at_ = 256
      · have HG : Hid (WithR S q (putT (kh k) at_ k v (.leaf k' v')) w (.returned (.pointer (some ⟨q, 0, none⟩))) w) := hide (by
          unfold putT
          rw [if_pos h256]
          exact ⟨q, rfl, .leaf _ q k v (.inr (.inl rfl)) hq, Touch.refl _ _⟩)
        subst h256
        clear h1 hr hs ho hq hfd HNF
        go_enter Tryd.func67, Tryd.ntmps67
        go_wp2_with fail
        go_ret
        exact unhide HG
      · have HF := hide (unhide HNF (by omega))
        have HP : Hid (putT (kh k) at_ k v (.leaf k' v') = forkT at_ (kh k) k v (.leaf k' v')) := hide (by conv => lhs; unfold putT; rw [if_neg h256])
        have hb1 : ¬ (256 : Int) < (at_ : Int) := by omega
        have hb2 : ((at_ : Int) == 256) = false := by rw [beq_eq_false_iff_ne]; omega
        clear h1 hr hs ho hq hfd HNF
        generalize forkT at_ (kh k) k v (.leaf k' v') = R at *
        go_enter Tryd.func67, Tryd.ntmps67
        go_wp2_with fail
        refine (unhide HF).mono ?_
        rintro e w2 ⟨p2, rfl, h2⟩
        have HG : Hid (WithR S q (putT (kh k) at_ k v (.leaf k' v')) w (.returned (.pointer (some ⟨p2, 0, none⟩))) w2) := hide (by rw [unhide HP]; exact ⟨p2, rfl, h2⟩)
        clear h2
        go_wp2_with fail
        go_ret
        exact unhide HG
  | fork a hv l r ihl ihr =>
    intro m w S p q hn hr hs ho hS hq hqS hfd
    have hbit := lead_bit (kh k) hr hs
    have HNF := hide (fun (ha : at_ < a) => newFork_nd (a := at_) hn (hash_of_ok ho) hS hq hqS hk (by have := hr.2.1; omega) (by
      have h1 := ((fd_iff (kh (leadL (kh k) (.fork a hv l r)).1) (kh k) at_ (by have := hr.2.1; omega)).1 hfd.symm).2
      have h2 := lead_alike (kh k) (.fork a hv l r) m hr hs at_ ha
      exact fun e => h1 (h2.trans e.symm)))
    have hne : at_ ≠ a := fun e => by
      have h1 := ((fd_iff (kh (leadL (kh k) (.fork a hv l r)).1) (kh k) at_ (by have := hr.2.1; omega)).1 hfd.symm).2
      rw [e] at h1
      exact h1 hbit
    cases hn with
    | fork S Sl Sr p a hv l r pl pr h0 h1 h2 h3 h4 h5 h6 =>
      have x3 := h4.cell 3 rfl
      obtain ⟨r0, r1, r2, r3⟩ := hr
      by_cases hlt : a < at_
      · have X := hide h4
        have x4 := h4.cell 4 rfl
        have x5 := h4.cell 5 rfl
        have q2 := hq.cell 2 rfl
        have hlt' : (a : Int) < (at_ : Int) := by omega
        have HB := hide (fun wx => hashBit_any (kh k) a wx (kh_size hk) r1)
        have HS := hide (And.intro h0 (And.intro h1 (And.intro h2 (And.intro h3 (And.intro hS hqS)))))
        have HQ := hide hq
        have HN5 := hide h5
        have HN6 := hide h6
        obtain ⟨s0, s1, s2, s3, s4⟩ := hs
        obtain ⟨o0, o1, o2, o3⟩ := ho
        rcases bitN_01 (kh k) a with hb | hb
        · have HP : Hid (putT (kh k) at_ k v (.fork a hv l r) = .fork a hv (putT (kh k) at_ k v l) r) := hide (by conv => lhs; unfold putT; rw [if_pos hlt, if_pos hb])
          have hfl : at_ = fd (kh (leadL (kh k) l).1) (kh k) := by rw [hfd]; conv => lhs; unfold leadL; rw [if_pos hb]
          have HC : Hid (∀ wx, Below w.heap.size w wx → wx.heap.size = w.heap.size → Calls Tryd.prog 67 #[.pointer (some ⟨pl, 0, none⟩), .pointer (some ⟨q, 0, none⟩), .int .i64 at_] wx fun e w' => WithR Sl q (putT (kh k) at_ k v l) wx e w') := hide (fun wx hbx hsx => ihl _ wx Sl pl q ((unhide HN5).blw hbx) r2 s3 o2 (fun b hb => by rw [hsx]; exact hS b (h1 b hb).1) ((unhide HQ).below hbx) (fun e => hqS (h1 q e).1) hfl)
          rw [hb] at HB
          clear h1 h2 h3 h4 h5 h6 h0 hS hqS hq hbit HNF hne hfd hfl ihl ihr s0 s1 s2 s3 s4 o0 o1 o2 o3 r0 r2 r3
          generalize putT (kh k) at_ k v l = D at *
          generalize putT (kh k) at_ k v (.fork a hv l r) = R at *
          generalize kh k = hh at *
          go_enter Tryd.func67, Tryd.ntmps67
          go_wp2_with fail
          go_quiet ((go_at_call 81; exact Calls.quiet_of_same (unhide HB _)))
          have BD := hide (below_drewN (Below.refl w.heap.size w) nq)
          have X1 := (unhide X).below (unhide BD)
          have y4 := X1.cell 4 rfl
          have g4 := X1.fro 4
          have HX1 := hide X1
          have HE : Hid ((w.drewN nq).heap.size = w.heap.size) := rfl
          clear x3 x4 x5 q2 X1
          generalize w.drewN nq = w1 at *
          go_wp2_with fail
          go_region_law ((go_simp; go_at_call 67; refine (unhide HC _ (below_drewN (unhide BD) 1) (unhide HE)).mono ?_; rintro e w2 ⟨p2, rfl, hn2, hT2⟩; (have X2 := ((unhide HX1).drewN 1).kept hT2 (fun e => ((unhide HS).2.1 p e).2 rfl)); (have z4 := X2.cell 4 rfl); (have h4 := X2.fro 4); go_simp))
          all_goals
            have HG := hide (with_end0 (q := q) (below_drewN (unhide BD) 1) (unhide HE) (unhide HS).1 (unhide HS).2.1 (unhide HS).2.2.1 (unhide HS).2.2.2.1 (unhide HS).2.2.2.2.1 (unhide HS).2.2.2.2.2 ((unhide HX1).drewN 1) ((unhide HN6).blw (below_drewN (unhide BD) 1)) hn2 hT2)
            rw [← unhide HP] at HG
            clear hn2 hT2 X2 z4 h4
            go_wp2_with fail
            go_ret
            exact unhide HG
        · have HP : Hid (putT (kh k) at_ k v (.fork a hv l r) = .fork a hv l (putT (kh k) at_ k v r)) := hide (by conv => lhs; unfold putT; rw [if_pos hlt, if_neg (by omega)])
          have hfl : at_ = fd (kh (leadL (kh k) r).1) (kh k) := by rw [hfd]; conv => lhs; unfold leadL; rw [if_neg (by omega)]
          have HC : Hid (∀ wx, Below w.heap.size w wx → wx.heap.size = w.heap.size → Calls Tryd.prog 67 #[.pointer (some ⟨pr, 0, none⟩), .pointer (some ⟨q, 0, none⟩), .int .i64 at_] wx fun e w' => WithR Sr q (putT (kh k) at_ k v r) wx e w') := hide (fun wx hbx hsx => ihr _ wx Sr pr q ((unhide HN6).blw hbx) r3 s4 o3 (fun b hb => by rw [hsx]; exact hS b (h2 b hb).1) ((unhide HQ).below hbx) (fun e => hqS (h2 q e).1) hfl)
          rw [hb] at HB
          clear h1 h2 h3 h4 h5 h6 h0 hS hqS hq hbit HNF hne hfd hfl ihl ihr s0 s1 s2 s3 s4 o0 o1 o2 o3 r0 r2 r3
          generalize putT (kh k) at_ k v r = D at *
          generalize putT (kh k) at_ k v (.fork a hv l r) = R at *
          generalize kh k = hh at *
          go_enter Tryd.func67, Tryd.ntmps67
          go_wp2_with fail
          go_quiet ((go_at_call 81; exact Calls.quiet_of_same (unhide HB _)))
          have BD := hide (below_drewN (Below.refl w.heap.size w) nq)
          have X1 := (unhide X).below (unhide BD)
          have y5 := X1.cell 5 rfl
          have g5 := X1.fro 5
          have HX1 := hide X1
          have HE : Hid ((w.drewN nq).heap.size = w.heap.size) := rfl
          clear x3 x4 x5 q2 X1
          generalize w.drewN nq = w1 at *
          go_wp2_with fail
          go_region_law ((go_simp; go_at_call 67; refine (unhide HC _ (below_drewN (unhide BD) 1) (unhide HE)).mono ?_; rintro e w2 ⟨p2, rfl, hn2, hT2⟩; (have X2 := ((unhide HX1).drewN 1).kept hT2 (fun e => ((unhide HS).2.2.1 p e).2 rfl)); (have z4 := X2.cell 5 rfl); (have h4 := X2.fro 5); go_simp))
          all_goals
            have HG := hide (with_end1 (q := q) (below_drewN (unhide BD) 1) (unhide HE) (unhide HS).1 (unhide HS).2.1 (unhide HS).2.2.1 (unhide HS).2.2.2.1 (unhide HS).2.2.2.2.1 (unhide HS).2.2.2.2.2 ((unhide HX1).drewN 1) ((unhide HN5).blw (below_drewN (unhide BD) 1)) hn2 hT2)
            rw [← unhide HP] at HG
            clear hn2 hT2 X2 z4 h4
            go_wp2_with fail
            go_ret
            exact unhide HG
      · have HF := hide (unhide HNF (by omega))
        have HP : Hid (putT (kh k) at_ k v (.fork a hv l r) = forkT at_ (kh k) k v (.fork a hv l r)) := hide (by conv => lhs; unfold putT; rw [if_neg hlt])
        have hb1 : ¬ (a : Int) < (at_ : Int) := by omega
        have hb2 : ((at_ : Int) == 256) = false := by rw [beq_eq_false_iff_ne]; omega
        clear h1 h2 h3 h4 h5 h6 h0 hS hqS hq hbit HNF hne hfd ihl ihr hs ho r0 r2 r3
        generalize forkT at_ (kh k) k v (.fork a hv l r) = R at *
        go_enter Tryd.func67, Tryd.ntmps67
        go_wp2_with fail
        refine (unhide HF).mono ?_
        rintro e w2 ⟨p2, rfl, h2⟩
        have HG : Hid (WithR S q (putT (kh k) at_ k v (.fork a hv l r)) w (.returned (.pointer (some ⟨p2, 0, none⟩))) w2) := hide (by rw [unhide HP]; exact ⟨p2, rfl, h2⟩)
        clear h2
        go_wp2_with fail
        go_ret
        exact unhide HG
end Go.Proofs.YtcmdilmjdnbfkaaDoor.Sha
namespace Go.Proofs.YtcmdilmjdnbfkaaDoor.Sha
open Go.ChangeShapes Go.WideShapes Go.ChangeAt Go.RowKit Go.Shelf
set_option linter.unusedVariables false
set_option linter.unusedSimpArgs false
attribute [local go_sem] Oper.semAt_some

/-- A leaf in memory, as it lies in the world w0 below n₀. -/
abbrev LfA (w0 : World) (n₀ : Nat) := { x : Nat × ByteArray × ByteArray // x.1 < n₀ ∧ w0.cell? ⟨x.1, 0, none⟩ = some (.string x.2.1) ∧ w0.cell? ⟨x.1, 1, none⟩ = some (.string x.2.2) }
inductive LT (w0 : World) (n₀ : Nat) where
  | leaf (x : LfA w0 n₀)
  | fork (a : Nat) (l r : LT w0 n₀)
def LT.list {w0 : World} {n₀ : Nat} : LT w0 n₀ → List (LfA w0 n₀)
  | .leaf x => [x]
  | .fork _ l r => l.list ++ r.list
def IsLT {w0 : World} {n₀ : Nat} (W : World) : Nat → LT w0 n₀ → Prop
  | p, .leaf x => p = x.1.1 ∧ W.cell? ⟨p, 3, none⟩ = some (.int .i64 256)
  | p, .fork a l r => p < n₀ ∧ a < 256 ∧ W.cell? ⟨p, 3, none⟩ = some (.int .i64 a) ∧ ∃ pl pr, W.cell? ⟨p, 4, none⟩ = some (.pointer (some ⟨pl, 0, none⟩)) ∧ W.cell? ⟨p, 5, none⟩ = some (.pointer (some ⟨pr, 0, none⟩)) ∧ IsLT W pl l ∧ IsLT W pr r
theorem IsLT.below {w0 A B : World} {n₀ : Nat} (h : Below n₀ A B) : ∀ {T : LT w0 n₀} {p : Nat}, IsLT A p T → IsLT B p T
  | .leaf x, p, ⟨h1, h2⟩ => ⟨h1, (h.cell (p := ⟨p, 3, none⟩) (by rw [h1]; exact x.2.1)).trans h2⟩
  | .fork a l r, p, ⟨h0, h1, h2, pl, pr, h3, h4, h5, h6⟩ => ⟨h0, h1, (h.cell (p := ⟨p, 3, none⟩) h0).trans h2, pl, pr, (h.cell (p := ⟨p, 4, none⟩) h0).trans h3, (h.cell (p := ⟨p, 5, none⟩) h0).trans h4, h5.below h, h6.below h⟩
theorem wide_room (k : Nat) : Fence.wide.room k := fun d h => by cases h
theorem yield_wide {m : Nat} (m' : Nat) {P : Program} {l : Nat} {args : Array Value} {W : World} {R : Ending → World → Prop} (h : YieldAt Fence.wide m P l args W R) : YieldAt Fence.wide m' P l args W R := by
  obtain ⟨fn, tmps, asg, bd, hy, hR⟩ := h
  exact ⟨fn, tmps, asg, bd, hy, hR.1, fun c cs _ => hR.2 c cs (wide_room _)⟩
/-- The leaves of a map, in their order. -/
def Tr.lvs : Tr → List (ByteArray × ByteArray)
  | .leaf k v => [(k, v)]
  | .fork _ _ l r => l.lvs ++ r.lvs
theorem lt_of_nd {w : World} {S : Nat → Prop} {p : Nat} {t : Tr} (h : Nd w S p t) : TrOK t → ∃ T : LT w w.heap.size, IsLT w p T ∧ T.list.map (fun x => x.1.2) = t.lvs := by
  induction h with
  | leaf S p k v h0 h1 => intro _; exact ⟨.leaf ⟨(p, k, v), h1.1, h1.cell 0 rfl, h1.cell 1 rfl⟩, ⟨rfl, h1.cell 3 rfl⟩, rfl⟩
  | fork S Sl Sr p a h l r pl pr h0 h1 h2 h3 h4 h5 h6 i1 i2 =>
    intro ho
    obtain ⟨T1, a1, b1⟩ := i1 ho.2.2.1
    obtain ⟨T2, a2, b2⟩ := i2 ho.2.2.2
    exact ⟨.fork a T1 T2, ⟨h4.1, ho.1, h4.cell 3 rfl, pl, pr, h4.cell 4 rfl, h4.cell 5 rfl, a1, a2⟩, by simp only [LT.list, List.map_append, b1, b2]; rfl⟩
set_option maxRecDepth 100000 in
set_option maxHeartbeats 2000000 in
theorem visit_in {w0 : World} {n₀ : Nat} (l N : Nat) (J Jx : List (LfA w0 n₀) → World → Prop)
    (hY : ∀ m pre x W, J pre W → pre.length < N → YieldAt Fence.wide m Tryd.prog l #[.pointer (some ⟨x.1.1, 0, none⟩)] W fun e W' =>
      (e = .returned (.bool true) ∧ J (pre ++ [x]) W' ∧ Below n₀ W W') ∨ (e = .returned (.bool false) ∧ Jx (pre ++ [x]) W')) (T : LT w0 n₀) :
    ∀ (n : Nat) (p : Nat) (pre : List (LfA w0 n₀)) (W : World), IsLT W p T → J pre W → pre.length + T.list.length ≤ N →
      CallsIn Fence.wide n Tryd.prog 92 #[.pointer (some ⟨p, 0, none⟩), .func (.yield l) #[] #[]] W fun e W' =>
        (e = .returned (.bool true) ∧ J (pre ++ T.list) W' ∧ Below n₀ W W') ∨ (e = .returned (.bool false) ∧ ∃ q, q <+: T.list ∧ Jx (pre ++ q) W') := by
  induction T with
  | leaf x =>
    intro n p pre W ht hJ hN
    obtain ⟨rfl, c3⟩ := ht
    obtain ⟨fn, tmps, asg, bd, hy, hR⟩ := hY (n - 1) pre x W hJ (by simp [LT.list] at hN; omega)
    refine callsIn_of_wp Tryd.func92 rfl trivial ?_ rfl
    simp only [Tryd.ntmps92, List.size_toArray, List.length_cons, List.length_nil, Nat.reduceAdd, Nat.reduceSub, Array.replicate_succ, Array.replicate_zero, List.push_toArray, List.append_toArray, List.nil_append, List.cons_append]
    gi_wp2
    refine ⟨fun h => (by cases h), ?_⟩
    refine hR.mono ?_
    rintro e W2 (⟨rfl, hJ2, hb2⟩ | ⟨rfl, hx2⟩)
    · gi_wp2
      go_ret
      exact .inl ⟨rfl, hJ2, hb2⟩
    · gi_wp2
      go_ret
      exact .inr ⟨rfl, [x], List.prefix_refl _, hx2⟩
  | fork a tl tr ihl ihr =>
    intro n p pre W ht hJ hN
    obtain ⟨h0, ha, c3, pl, pr, c4, c5, hl, hr⟩ := ht
    simp only [LT.list, List.length_append] at hN
    have hdd : ∀ k : Nat, (Fence.wide.depth.isSome = true → 1 ≤ k) := fun k h => by cases h
    have hab : ((a : Int) == 256) = false := by rw [beq_eq_false_iff_ne]; omega
    have ih1 := (ihl (n - 1) pl pre W hl hJ (by omega)).mono (R' := fun e W1 =>
        (e = .returned (.bool true) ∧ W1.cell? ⟨p, 5, none⟩ = some (.pointer (some ⟨pr, 0, none⟩)) ∧ J (pre ++ tl.list) W1 ∧ Below n₀ W W1 ∧ IsLT W1 pr tr) ∨
        (e = .returned (.bool false) ∧ ∃ q, q <+: tl.list ∧ Jx (pre ++ q) W1))
      (fun e W1 h => h.elim (fun ⟨he, hj, hb1⟩ => .inl ⟨he, (hb1.cell (p := ⟨p, 5, none⟩) h0).trans c5, hj, hb1, hr.below hb1⟩) .inr)
    clear ihl
    refine callsIn_of_wp Tryd.func92 rfl trivial ?_ rfl
    simp only [Tryd.ntmps92, List.size_toArray, List.length_cons, List.length_nil, Nat.reduceAdd, Nat.reduceSub, Array.replicate_succ, Array.replicate_zero, List.push_toArray, List.append_toArray, List.nil_append, List.cons_append]
    gi_wp2_with (first
      | (refine ⟨trivial, ?_⟩; (try refine ⟨hdd _, ?_⟩); gi_at_call 92; refine ih1.mono ?_; clear ih1; rintro e W1 (⟨rfl, c5', hJ1, hb1, hr1⟩ | ⟨rfl, q, hq, hx1⟩))
      | (refine ⟨trivial, ?_⟩; (try refine ⟨hdd _, ?_⟩); gi_at_call 92; refine (ihr (n - 1) pr _ _ hr1 hJ1 (by simp; omega)).mono ?_; rintro e W3 (⟨rfl, hJ3, hb3⟩ | ⟨rfl, q, hq, hx3⟩)))
    · go_ret
      exact .inl ⟨rfl, by simpa [LT.list, List.append_assoc] using hJ3, hb1.trans hb3⟩
    · go_ret
      obtain ⟨r, hr'⟩ := hq
      exact .inr ⟨rfl, tl.list ++ q, ⟨r, by simp [LT.list, ← hr']⟩, by simpa [List.append_assoc] using hx3⟩
    · refine ⟨trivial, ?_⟩
      gi_wp2
      go_ret
      exact .inr ⟨rfl, q, hq.trans (by simp [LT.list]), hx1⟩
set_option maxHeartbeats 1000000 in
theorem visit_nil (l n : Nat) (W : World) :
    CallsIn Fence.wide n Tryd.prog 92 #[.pointer none, .func (.yield l) #[] #[]] W fun e W' => e = .returned (.bool true) ∧ W' = W := by
  refine callsIn_of_wp Tryd.func92 rfl trivial ?_ rfl
  simp only [Tryd.ntmps92, List.size_toArray, List.length_cons, List.length_nil, Nat.reduceAdd, Nat.reduceSub, Array.replicate_succ, Array.replicate_zero, List.push_toArray, List.append_toArray, List.nil_append, List.cons_append]
  gi_wp2
  go_ret
  exact ⟨rfl, rfl⟩
/-- A pointer to a map's nodes, or nil; the leaves. -/
def IsLO {w0 : World} {n₀ : Nat} (W : World) : Option Addr → Option (LT w0 n₀) → Prop
  | pv, none => pv = none
  | pv, some T => ∃ p, pv = some ⟨p, 0, none⟩ ∧ IsLT W p T
def LO.list {w0 : World} {n₀ : Nat} : Option (LT w0 n₀) → List (LfA w0 n₀)
  | none => []
  | some T => T.list
theorem IsLO.below {w0 A B : World} {n₀ : Nat} (h : Below n₀ A B) {o : Option (LT w0 n₀)} {pv : Option Addr} (hl : IsLO A pv o) : IsLO B pv o := by
  cases o with
  | none => exact hl
  | some T => obtain ⟨p, h1, h2⟩ := hl; exact ⟨p, h1, h2.below h⟩
set_option maxHeartbeats 1000000 in
theorem leaves1_in {w0 : World} {n₀ : Nat} (n l Bt : Nat) (pv : Option Addr) (o : Option (LT w0 n₀)) (J Jx : List (LfA w0 n₀) → World → Prop)
    (hY : ∀ pre x W, J pre W → pre.length < (LO.list o).length → YieldAt Fence.wide (n - 1) Tryd.prog l #[.pointer (some ⟨x.1.1, 0, none⟩)] W fun e W' =>
      (e = .returned (.bool true) ∧ J (pre ++ [x]) W' ∧ Below n₀ W W') ∨ (e = .returned (.bool false) ∧ Jx (pre ++ [x]) W'))
    (W : World) (hBt : W.cell? ⟨Bt, 0, none⟩ = some (.pointer pv)) (hT : IsLO W pv o) (h0 : J [] W) :
    CallsIn Fence.wide n Tryd.prog 91 #[.func (.yield l) #[] #[], .pointer (some ⟨Bt, 0, none⟩)] W fun e W' => (∃ v, e = .returned v) ∧
      ((∃ ys, ys = LO.list o ∧ J ys W') ∨ (∃ pre, pre <+: LO.list o ∧ Jx pre W')) := by
  have hdd : ∀ k : Nat, (Fence.wide.depth.isSome = true → 1 ≤ k) := fun k h => by cases h
  cases o with
  | none =>
    obtain rfl : pv = none := hT
    have hp := visit_nil l (n - 1) W
    refine callsIn_of_wp Tryd.func91 rfl trivial ?_ rfl
    simp only [Tryd.ntmps91, List.size_toArray, List.length_cons, List.length_nil, Nat.reduceAdd, Nat.reduceSub, Array.replicate_succ, Array.replicate_zero, List.push_toArray, List.append_toArray, List.nil_append, List.cons_append]
    gi_wp2_with (refine ⟨trivial, ?_⟩; (try refine ⟨hdd _, ?_⟩); gi_at_call 92; refine hp.mono ?_; clear hp; rintro e W1 ⟨rfl, rfl⟩)
    go_end0
    exact ⟨⟨_, rfl⟩, .inl ⟨_, rfl, h0⟩⟩
  | some T =>
    obtain ⟨p, rfl, hT'⟩ := hT
    have hp := visit_in l T.list.length J Jx (fun m pre x W hj hl => yield_wide m (hY pre x W hj hl)) T (n - 1) p [] W hT' h0 (by simp)
    refine callsIn_of_wp Tryd.func91 rfl trivial ?_ rfl
    simp only [Tryd.ntmps91, List.size_toArray, List.length_cons, List.length_nil, Nat.reduceAdd, Nat.reduceSub, Array.replicate_succ, Array.replicate_zero, List.push_toArray, List.append_toArray, List.nil_append, List.cons_append]
    gi_wp2_with (refine ⟨trivial, ?_⟩; (try refine ⟨hdd _, ?_⟩); gi_at_call 92; refine hp.mono ?_; clear hp; rintro e W1 (⟨rfl, hJ1, _⟩ | ⟨rfl, q, hq, hx⟩))
    · go_end0
      exact ⟨⟨_, rfl⟩, .inl ⟨_, rfl, by simpa [LO.list] using hJ1⟩⟩
    · go_end0
      exact ⟨⟨_, rfl⟩, .inr ⟨q, hq, by simpa using hx⟩⟩
set_option maxHeartbeats 1000000 in
theorem leaves_in (n : Nat) (pv : Option Addr) (w : World) :
    CallsIn Fence.wide n Tryd.prog 70 #[.pointer pv] w fun e w' => e = .returned (.func (.func 91) #[] #[.pointer (some ⟨w.heap.size, 0, none⟩)]) ∧ w' = w.alloc (.cells #[.pointer pv] 70) := by
  refine callsIn_of_wp Tryd.func70 rfl trivial ?_ rfl
  simp only [Tryd.ntmps70, List.size_toArray, List.length_cons, List.length_nil, Nat.reduceAdd, Nat.reduceSub, Array.replicate_succ, Array.replicate_zero, List.push_toArray, List.append_toArray, List.nil_append, List.cons_append]
  gi_wp2
  go_ret
  exact ⟨rfl, rfl⟩
theorem leaves_stops {w0 : World} {n₀ : Nat} (n Bt : Nat) (pv : Option Addr) (o : Option (LT w0 n₀)) (w : World) (hBt : Bt < w.heap.size) (hn₀ : n₀ ≤ w.heap.size)
    (hc : w.cell? ⟨Bt, 0, none⟩ = some (.pointer pv)) (hT : IsLO w pv o) :
    SeqStopsK Fence.wide n Tryd.prog 91 #[.pointer (some ⟨Bt, 0, none⟩)] (fun x : LfA w0 n₀ => #[Value.pointer (some ⟨x.1.1, 0, none⟩)]) (Below n₀) (fun ys => ys = LO.list o) (fun pre => pre <+: LO.list o) (LO.list o).length w := fun l J Jx W hW _ _ hY h0 =>
  leaves1_in n l Bt pv o J Jx hY W ((hW.cell (p := ⟨Bt, 0, none⟩) hBt).trans hc) (hT.below (hW.mono hn₀)) h0
theorem box_cell (W : World) (v : Value) (t : TypeId) : (W.alloc (.cells #[v] t)).cell? ⟨W.heap.size, 0, none⟩ = some v ∧ (W.alloc (.cells #[v] t)).frozen? ⟨W.heap.size, 0, none⟩ = false :=
  have h := Blk.new W #[v] t W.heap.size rfl
  ⟨h.cell 0 rfl, h.fro 0⟩
theorem alloc_cell {W : World} {a : Addr} {v : Value} (o : Obj) (h : W.cell? a = some v) (hf : W.frozen? a = false) : (W.alloc o).cell? a = some v ∧ (W.alloc o).frozen? a = false :=
  ⟨cell_kept h (World.grownBy_alloc W o none) (fun r e => by cases e), (frozen_kept h (World.grownBy_alloc W o none) (fun r e => by cases e)).trans hf⟩
set_option maxRecDepth 100000 in
set_option maxHeartbeats 2000000 in
theorem size_in (n : Nat) (hn : 3 ≤ n) (pv : Option Addr) (w : World) (o : Option (LT w w.heap.size)) (hL : IsLO w pv o) (h40 : (LO.list o).length ≤ 1000) :
    CallsIn Fence.wide n Tryd.prog 66 #[.pointer pv] w fun e W' => e = .returned (.int .i64 (LO.list o).length) ∧ Below w.heap.size w W' := by
  have h1 : 1 ≤ n := by omega
  have hdd : ∀ k : Nat, (Fence.wide.depth.isSome = true → 1 ≤ k) := fun k h => by cases h
  refine callsIn_of_wp_marks Tryd.func66 rfl trivial ?_ rfl
  simp only [Tryd.ntmps66, List.size_toArray, List.length_cons, List.length_nil, Nat.reduceAdd, Nat.reduceSub, Array.replicate_succ, Array.replicate_zero, List.push_toArray, List.append_toArray, List.nil_append, List.cons_append]
  gi_wp2_with (refine ⟨trivial, ?_⟩; (try refine ⟨hdd _, ?_⟩); gi_at_call 70; refine (leaves_in (n - 1) _ _).mono ?_; rintro e w' ⟨rfl, rfl⟩)
  have hs := box_cell w (.int .i64 0) 3
  have hs2 := alloc_cell (.cells #[.pointer pv] 70) hs.1 hs.2
  have hb := box_cell (w.alloc (.cells #[.int .i64 0] 3)) (.pointer pv) 70
  rw [World.size_alloc] at hb
  have hB0 : Below w.heap.size w ((w.alloc (.cells #[.int .i64 0] 3)).alloc (.cells #[.pointer pv] 70)) := ((Below.refl _ w).alloc (Nat.le_refl _) _).alloc (by simp) _
  refine wpIn_rangeFunc_ownF rfl h1 (gf := 91) (lb := #[.pointer (some ⟨w.heap.size + 1, 0, none⟩)]) rfl trivial (enters_of Tryd.func91 (by kernel_rfl) rfl)
    (leaves_stops (n - 1) (w.heap.size + 1) pv o _ (by simp) (by simp; omega) hb.1 (hL.below hB0)) belowK_t (belowK_b (by simp; omega)) (Below.refl _ _) (fun _ => rfl)
    (fun pre W => (W.cell? ⟨w.heap.size, 0, none⟩ = some (.int .i64 pre.length) ∧ W.frozen? ⟨w.heap.size, 0, none⟩ = false) ∧ Below w.heap.size w W)
    (fun _ _ _ => False)
    (OwnFrom.and (Own.from (fun s A B row hs hg hr => ⟨cell_kept hs.1 hg hr, (frozen_kept hs.1 hg hr).trans hs.2⟩) _) (ownFrom_below (Nat.le_refl _) (by simp; omega)))
    (fun _ _ _ _ _ hs _ _ => hs)
    ⟨hs2, hB0⟩
    (fun x => { tmps := #[.pointer pv, undef, .int .i64 0, .pointer (some ⟨w.heap.size, 0, none⟩), .pointer pv, .func (.func 91) #[] #[.pointer (some ⟨w.heap.size + 1, 0, none⟩)], .pointer (some ⟨x.1.1, 0, none⟩), undef, undef, undef], defers := [] }) ?assign ?body ?done ?stop
  case assign =>
    intro l x W K hK
    gi_wp2
    first | exact hK | simpa using hK | simpa [Array.zip] using hK | (rw [List.zip_toArray]; simpa using hK)
  case body =>
    rintro l pre x W ⟨⟨hc, hf⟩, hB⟩ hlen
    have hle : pre.length + 1 ≤ 1000 := by omega
    have hw : wrap64 ((pre.length : Int) + 1) = ((pre ++ [x]).length : Int) := by unfold wrap64; simp; omega
    gi_wp2
    exact ⟨KeepsOthers.setCell _ _ _, (Below.refl w.heap.size W).setCell (p := ⟨w.heap.size, 0, none⟩) (Nat.le_refl _) _, ⟨by first | (rw [← hw]; exact World.cell?_setCell_same' _ _ _ (by rw [hc]; rfl)) | (rw [show ((pre ++ [x]).length : Int) = (pre.length : Int) + 1 by simp]; exact World.cell?_setCell_same' _ _ _ (by rw [hc]; rfl)), by rw [World.frozen?_setCell]; exact hf⟩, hB.setCell (p := ⟨w.heap.size, 0, none⟩) (Nat.le_refl _) _⟩
  case done =>
    rintro D ys W hD rfl ⟨⟨hc, _⟩, hB⟩ hK
    gi_wp2
    refine ⟨by simp, .inl ⟨_, _, rfl, run_takeDeferred hK, ?_⟩⟩
    exact ⟨_, results_tmp rfl _ _ _, rfl, hB.trans (belowK_b (w := w) (Nat.le_refl _) W D _ _ (by simp at hD; omega) hK rfl rfl)⟩
  case stop =>
    rintro D c pre W _ _ h _
    exact h.elim
theorem size_any {w : World} {S : Nat → Prop} {p : Nat} {t : Tr} (h : Nd w S p t) (ho : TrOK t) (h40 : t.lvs.length ≤ 1000) :
    Calls Tryd.prog 66 #[.pointer (some ⟨p, 0, none⟩)] w fun e w' => e = .returned (.int .i64 t.lvs.length) ∧ Below w.heap.size w w' := by
  obtain ⟨T, h1, h2⟩ := lt_of_nd h ho
  have hl : (LO.list (some T)).length = t.lvs.length := by rw [← h2]; simp [LO.list]
  have := callsIn_wide.1 (size_in 3 (Nat.le_refl _) _ w (some T) ⟨p, rfl, h1⟩ (by omega))
  rw [hl] at this
  exact this
end Go.Proofs.YtcmdilmjdnbfkaaDoor.Sha
namespace Go.Proofs.YtcmdilmjdnbfkaaDoor.Sha
open Go.ChangeShapes Go.WideShapes Go.ChangeAt Go.RowKit
set_option linter.unusedVariables false

def mxI (a b : Int) : Int := if a < b then b else a
set_option maxRecDepth 100000 in
theorem worst1_any (a b : Int) (w : World) :
    Calls Tryd.prog 87 #[.int .i64 a, .int .i64 b] w fun e w' => e = .returned (.int .i64 (mxI a b)) ∧ w' = w := by
  by_cases h : a < b
  · have H : Hid (mxI a b = b) := hide (if_pos h)
    go_enter Tryd.func87, Tryd.ntmps87
    go_wp2_with fail
    go_ret
    exact ⟨ret_int (unhide H).symm, rfl⟩
  · have H : Hid (mxI a b = a) := hide (if_neg h)
    go_enter Tryd.func87, Tryd.ntmps87
    go_wp2_with fail
    go_ret
    exact ⟨ret_int (unhide H).symm, rfl⟩
/-- The greatest of the first k. -/
def mxTo (l : List Int) : Nat → Int
  | 0 => 0
  | k + 1 => mxI (mxTo l k) (l.getD k 0)
set_option maxRecDepth 100000 in
set_option maxHeartbeats 1000000 in
theorem foldInt_any (l : List Int) (b cap : Nat) (w : World) (hl : l.length ≤ 1000) (hc : ∀ i, i < l.length → w.cell? ⟨b, i, none⟩ = some (.int .i64 (l.getD i 0))) :
    Calls Tryd.prog 86 #[.slice (some ⟨b, 0, none⟩) l.length cap, .int .i64 0, .func (.func 87) #[] #[]] w fun e w' => e = .returned (.int .i64 (mxTo l l.length)) ∧ w' = w := by
  have HC := hide hc
  clear hc
  go_enter Tryd.func86, Tryd.ntmps86
  go_wp2_with fail
  go_loop [1, 11] (fun v i => ∃ k : Nat, k ≤ l.length ∧ i = .int .i64 k ∧ v = .int .i64 (mxTo l k)) (fun _ i => l.length - (intOf i).toNat)
  case atStart => exact ⟨0, Nat.zero_le _, rfl, rfl⟩
  case round =>
    obtain ⟨k, hk, rfl, rfl⟩ := hrel
    by_cases hlt : k < l.length
    · have c0 := unhide HC k hlt
      have hk0 : (0 : Int) ≤ (k : Int) := by omega
      have hk1 : (k : Int) < (l.length : Int) := by omega
      have HW := hide (worst1_any (mxTo l k) (l.getD k 0) w)
      have HE : Hid (mxTo l (k + 1) = mxI (mxTo l k) (l.getD k 0)) := rfl
      generalize mxTo l k = x at *
      generalize l.getD k 0 = y at *
      generalize mxI x y = z at *
      go_wp2_with fail
      refine (unhide HW).mono ?_
      rintro e w' ⟨rfl, rfl⟩
      go_wp2_with fail
      refine ⟨⟨k + 1, by omega, by go_num, by rw [unhide HE]⟩, ?_⟩
      simp [intOf]; omega
    · obtain rfl : k = l.length := by omega
      go_wp2_with fail
      go_ret
      exact ⟨rfl, rfl⟩
set_option maxRecDepth 100000 in
theorem worst_any (c1 c2 : Int) (b : Nat) (w : World) (h0 : 0 ≤ c1) (h1 : 0 ≤ c2) (k0 : w.cell? ⟨b, 0, none⟩ = some (.int .i64 c1)) (k1 : w.cell? ⟨b, 1, none⟩ = some (.int .i64 c2)) :
    Calls Tryd.prog 61 #[.slice (some ⟨b, 0, none⟩) 2 2] w fun e w' => e = .returned (.int .i64 (mxI c1 c2)) ∧ w' = w := by
  have HF := hide (foldInt_any [c1, c2] b 2 w (by simp) (fun i hi => by
    match i, hi with
    | 0, _ => exact k0
    | 1, _ => exact k1))
  have HE : Hid (mxTo [c1, c2] [c1, c2].length = mxI c1 c2) := hide (by
    show mxI (mxI 0 c1) c2 = mxI c1 c2
    have : mxI 0 c1 = c1 := by unfold mxI; split <;> omega
    rw [this])
  clear k0 k1
  go_enter Tryd.func61, Tryd.ntmps61
  go_wp2_with fail
  refine (unhide HF).mono ?_
  rintro e w' ⟨rfl, rfl⟩
  rw [unhide HE]
  go_wp2_with fail
  go_ret
  exact ⟨rfl, rfl⟩
end Go.Proofs.YtcmdilmjdnbfkaaDoor.Sha
namespace Go.Proofs.YtcmdilmjdnbfkaaDoor.Sha
open Go.ChangeShapes Go.WideShapes Go.ChangeAt Go.RowKit
set_option linter.unusedVariables false
set_option linter.unusedSimpArgs false

theorem lvs_len : ∀ t : Tr, t.lvs.length = t.lvN
  | .leaf _ _ => rfl
  | .fork _ _ l r => by show (l.lvs ++ r.lvs).length = l.lvN + r.lvN; rw [List.length_append, lvs_len l, lvs_len r]
/-- The bit at which a key's hash parts from the leaf's that it leads to. -/
def putAt (t : Tr) (key : ByteArray) : Nat := fd (kh (leadL (kh key) t).1) (kh key)
/-- What MapPut answers of a map. -/
def mpO (o : Option Tr) (key val : ByteArray) : Br × Int := match o with
  | none => (brOf (some (.leaf key val)), 0)
  | some t => if putAt t key < 256 ∧ t.lvN = 40 then (brOf none, 7) else (brOf (some (putT (kh key) (putAt t key) key val t)), 0)
def opC (b : Br) (key : ByteArray) : Int := if txC key.size 1 24 = 0 then (match mapV b with | none => 1 | some _ => 0) else txC key.size 1 24
def mpOut (b : Br) (key val : ByteArray) : Br × Int := if mxI (opC b key) (txC val.size 0 60) = 0 then (match mapV b with
    | none => (brOf none, 0)
    | some o => mpO o key val)
  else (brOf none, mxI (opC b key) (txC val.size 0 60))
theorem mxI_zero {a b : Int} (h0 : 0 ≤ a) (h1 : 0 ≤ b) (h : mxI a b = 0) : a = 0 ∧ b = 0 := by unfold mxI at h; split at h <;> omega
theorem txC_lo (n : Nat) (lo hi : Int) : 0 ≤ txC n lo hi := by rcases txC_cases n lo hi with h | h | h <;> omega
theorem txC_val {n : Nat} (h : txC n 0 60 = 0) : n ≤ 60 := by
  unfold txC at h
  split at h
  · omega
  · split at h
    · rename_i h2; have := inB_iff.1 h2; omega
    · omega
set_option maxRecDepth 100000 in
set_option maxHeartbeats 4000000 in
theorem implMapPut_any (k v : ByteArray) (a : Int) (ks : List Br) (key val : ByteArray) (S : Nat → Prop) (kv : Value) (w : World) (hB : Brs S w kv ks) (hk : k.size ≤ maxLen) (hv : v.size ≤ maxLen) (hky : key.size ≤ 1048576) (hvl : val.size ≤ 1048576) (ht : Tab w) :
    Calls Tryd.prog 26 #[.agg #[.string k, .string v, .int .i64 a, kv], .string key, .string val] w fun e w' => ∃ u, e = .returned (.tuple #[u, .int .i64 (mpOut (.mk k v a ks) key val).2]) ∧ BrV w.heap.size w' u (mpOut (.mk k v a ks) key val).1 ∧ Below w.heap.size w w' := by
  obtain ⟨sa, cap, rfl, hcap, hcm⟩ := hB.shape
  have B0 := hide ((Below.refl w.heap.size w).alloc (Nat.le_refl _) (.cells #[.string k, .string v, .int .i64 a, .slice sa ks.length cap] 37))
  have R0 := hide (Blk.new (w.alloc (.cells #[.string k, .string v, .int .i64 a, .slice sa ks.length cap] 37)) #[.string ⟨#[]⟩, .string ⟨#[]⟩, .int .i64 0, .slice none 0 0] 37 (w.heap.size + 1) (by simp))
  have B1 := hide ((unhide B0).alloc (unhide B0).size (.cells #[.string ⟨#[]⟩, .string ⟨#[]⟩, .int .i64 0, .slice none 0 0] 37))
  have HR := hide (openMap_any k v a ks key S _ _ ((hB.blw (unhide B0)).blw ((Below.refl _ _).alloc (Nat.le_refl _) (.cells #[.string ⟨#[]⟩, .string ⟨#[]⟩, .int .i64 0, .slice none 0 0] 37))) hk hv hky (ht.below (unhide B1)))
  have HT := hide ht
  have HRI := hide (fun o => mapV_rise (b := .mk k v a ks) (o := o))
  have HBR := hide (fun o => mapV_br (b := .mk k v a ks) (o := o))
  have HSE := hide (fun o => mapV_sep (b := .mk k v a ks) (o := o))
  have HSZ := hide (show w.heap.size ≤ w.heap.size + 1 by omega)
  have HTX := hide (fun wx => textFault_any val 0 60 wx (by unfold maxLen; omega))
  have hvc0 := txC_lo val.size 0 60
  have HVC := hide (fun (h : txC val.size 0 60 = 0) => txC_val h)
  have HKC := hide (fun (h : txC key.size 1 24 = 0) => txC_key h)
  have HOD : Hid (mpOut (.mk k v a ks) key val = if mxI (opC (.mk k v a ks) key) (txC val.size 0 60) = 0 then (match mapV (.mk k v a ks) with | none => (brOf none, 0) | some o => mpO o key val) else (brOf none, mxI (opC (.mk k v a ks) key) (txC val.size 0 60))) := rfl
  generalize txC val.size 0 60 = vc at *
  clear hB ht hk hv B0
  go_enter Tryd.func26, Tryd.ntmps26
  go_wp2_with fail
  generalize (w.alloc (.cells #[.string k, .string v, .int .i64 a, .slice sa ks.length cap] 37)).alloc (.cells #[.string ⟨#[]⟩, .string ⟨#[]⟩, .int .i64 0, .slice none 0 0] 37) = w1 at *
  generalize w.heap.size + 1 = rb at *
  refine (unhide HR).mono ?_
  rintro e w2 ⟨pv, c, rfl, hb, hcs⟩
  have B2 := hide ((unhide B1).trans (hb.mono (unhide B1).size))
  have R2 := hide ((unhide R0).below hb)
  have S1 := hide (And.intro (unhide R0).1 (And.intro (unhide B1).size hb.size))
  have hoc : opC (.mk k v a ks) key = c ∧ 0 ≤ c := by
    rcases hcs with ⟨h1, h2, h3⟩ | ⟨h1, h2, h3, h4⟩ | ⟨h1, h2, o, h3, h4⟩
    · exact ⟨by unfold opC; rw [if_neg h1, h2], by rw [h2]; exact txC_lo _ _ _⟩
    · exact ⟨by unfold opC; rw [if_pos h1, h2, h3], by omega⟩
    · exact ⟨by unfold opC; rw [if_pos h1, h3, h2], by omega⟩
  rw [hoc.1] at HOD
  have hc0 := hoc.2
  have HCS := hide hcs
  have HWS := hide (fun b wx h0 h1 => worst_any c vc b wx hc0 hvc0 h0 h1)
  have HMZ := hide (fun h => mxI_zero hc0 hvc0 h)
  generalize mxI c vc = mx at *
  clear hb HR R0 B1 hcs hoc
  go_wp2_with fail
  refine (unhide HTX _).mono ?_
  rintro e w9 ⟨rfl, hw9⟩
  subst w9
  have N2 := Blk.new w2 #[.int .i64 c, .int .i64 vc] 3 w2.heap.size rfl
  have BA := (Below.refl w2.heap.size w2).alloc (Nat.le_refl _) (.cells #[.int .i64 c, .int .i64 vc] 3)
  have B3 := hide ((unhide B2).trans (BA.mono (unhide B2).size))
  have R3 := hide ((unhide R2).below BA)
  have HW := hide (unhide HWS w2.heap.size (w2.alloc (.cells #[.int .i64 c, .int .i64 vc] 3)) (N2.cell 0 rfl) (N2.cell 1 rfl))
  have BA2 := hide BA
  clear N2 BA HWS
  go_wp2_with fail
  refine (unhide HW).mono ?_
  rintro e w9 ⟨rfl, hw9⟩
  subst w9
  generalize w2.alloc (.cells #[.int .i64 c, .int .i64 vc] 3) = w3 at *
  by_cases hmx : mx = 0
  · obtain ⟨hcz, hvz⟩ := unhide HMZ hmx
    have hval := unhide HVC hvz
    obtain ⟨hkt, o, hmo, hptr⟩ : txC key.size 1 24 = 0 ∧ ∃ o, mapV (.mk k v a ks) = some o ∧ PtrM w2 (fun x => w1.heap.size ≤ x ∧ x < w2.heap.size) pv o := by
      rcases unhide HCS with ⟨h1, h2, h3⟩ | ⟨h1, h2, h3, h4⟩ | ⟨h1, h2, o, h3, h4⟩
      · exact absurd (h2.symm.trans hcz) h1
      · omega
      · exact ⟨h1, o, h3, h4⟩
    have hkey := unhide HKC hkt
    have HO : Hid (mpOut (.mk k v a ks) key val = mpO o key val) := hide (by rw [unhide HOD, if_pos hmx, hmo])
    have HRO := hide (unhide HRI o hmo)
    have HOK := hide (unhide HBR o hmo).2
    have HSP := hide (unhide HSE o hmo)
    have P3 := hide (hptr.blw (unhide BA2))
    have HNL := hide (newLeaf_any key val w3 (by omega) ((unhide HT).below (unhide B3)))
    have HKV := hide (show TrOK (.leaf key val) from ⟨okK_iff.2 hkey, hval⟩)
    have hsz23 := (unhide BA2).size
    have HS23 := hide (And.intro (unhide S1).2.1 (And.intro (unhide S1).1 hsz23))
    clear HCS HOD HMZ HRI HBR HSE HVC HKC hptr hmo hsz23 HW HTX BA2 B2 R2
    subst hmx hcz hvz
    go_wp2_with fail
    refine (unhide HNL).mono ?_
    rintro e w4 ⟨q, rfl, hq0, hqB, hb4⟩
    have B4 := hide ((unhide B3).trans (hb4.mono (unhide B3).size))
    have R4 := hide ((unhide R3).below hb4)
    have P4 := hide ((unhide P3).blw hb4)
    have QB := hide hqB
    have Q0 := hide (And.intro hq0 hb4.size)
    clear hb4 hqB hq0 HNL B3 R3 P3
    cases o with
    | none =>
      obtain rfl : pv = none := unhide P4
      have HO0 : Hid (mpOut (.mk k v a ks) key val = ((Tr.leaf key val).toBr, 0)) := hide (by rw [unhide HO]; rfl)
      have HBC := hide (branch_any (Nd.leaf (fun _ => True) q key val trivial (unhide QB)) (unhide HKV) w4 (Below.refl _ _))
      generalize (Tr.leaf key val).toBr = D at *
      clear HO QB P4
      go_wp2_with fail
      refine (unhide HBC).mono ?_
      rintro e w8 ⟨sa5, n5, c5, rfl, hO5, hb5⟩
      have R5 := hide ((unhide R4).below hb5)
      have B5 := hide ((unhide B4).trans (hb5.mono (unhide B4).size))
      have hE := end4b (unhide R5) (unhide B5) hO5 (unhide HSZ) (unhide R4).1
      clear hb5 hO5 HBC B4
      have r0 := (unhide R5).cell 0 rfl
      have r1 := (unhide R5).cell 1 rfl
      have r2 := (unhide R5).cell 2 rfl
      have r3 := (unhide R5).cell 3 rfl
      have f0 := (unhide R5).fro 0
      have f1 := (unhide R5).fro 1
      have f2 := (unhide R5).fro 2
      have f3 := (unhide R5).fro 3
      have z0 := hE.1.cell 0 rfl
      have z1 := hE.1.cell 1 rfl
      have z2 := hE.1.cell 2 rfl
      have z3 := hE.1.cell 3 rfl
      have HE := hide hE
      unfold set4 at z0 z1 z2 z3
      clear hE
      go_wp2_with fail
      refine bodyPost_ret (v := .tuple #[.agg #[.string D.key, .string D.val, .int .i64 D.at_, .slice sa5 n5 c5], .int .i64 0]) (by simp [results, Tryd.results26, go_sem, z0, z1, z2, z3]) rfl ?_
      exact ⟨_, by rw [unhide HO0], by rw [unhide HO0]; exact (unhide HE).2.1, (unhide HE).2.2⟩
    | some t =>
      obtain ⟨p, rfl, hn⟩ := unhide P4
      obtain ⟨hsp, h40⟩ := unhide HSP
      have HND := hide hn
      have hkk := kh_size (k := key) (by omega)
      have hlo := lead_ok (kh key) t (unhide HOK)
      have hlk := kh_size (k := (leadL (kh key) t).1) (by have := (okK_iff.1 hlo.1).2; omega)
      have HLD := hide (fun wx (hbx : Below w4.heap.size w4 wx) => lead_any (kh key) hkk wx _ p t ((unhide HND).blw hbx) (unhide HRO))
      have HFD := hide (fun wx => firstDiff_any (kh (leadL (kh key) t).1) (kh key) wx hlk hkk)
      have HAT := hide (show fd (kh (leadL (kh key) t).1) (kh key) ≤ 256 from fd_le _ _)
      have HPA : Hid (putAt t key = fd (kh (leadL (kh key) t).1) (kh key)) := rfl
      have HWI := hide (fun wx (hbx : Below w4.heap.size w4 wx) => with_any key val (fd (kh (leadL (kh key) t).1) (kh key)) (fd_le _ _) (by omega) t 0 wx _ p q ((unhide HND).blw hbx) (unhide HRO) hsp (unhide HOK) (fun b hb => by have := hbx.size; have := (unhide Q0).2; have := (unhide HS23).2.2; omega) ((unhide QB).below hbx) (fun e => by have := (unhide Q0).1; have := (unhide HS23).2.2; omega) rfl)
      have HPO := hide (putT_ok (kh key) (fd (kh (leadL (kh key) t).1) (kh key)) key val (fd_le _ _) hkk (unhide HKV).1 (unhide HKV).2 t (unhide HOK))
      have HSI := hide (fun wx (hbx : Below w4.heap.size w4 wx) => size_any ((unhide HND).blw hbx) (unhide HOK) (by rw [lvs_len]; omega))
      rw [lvs_len] at HSI
      have q2 : w4.cell? ⟨q, 2, none⟩ = some (.string (kh key)) := (unhide QB).cell 2 rfl
      have HOA : Hid (mpOut (.mk k v a ks) key val = if fd (kh (leadL (kh key) t).1) (kh key) < 256 ∧ t.lvN = 40 then (brOf none, 7) else ((putT (kh key) (fd (kh (leadL (kh key) t).1) (kh key)) key val t).toBr, 0)) := hide (by rw [unhide HO]; rfl)
      generalize hlh : kh (leadL (kh key) t).1 = lh at *
      have HLH := hide hlh
      clear hlh
      generalize fd lh (kh key) = A at *
      generalize putT (kh key) A key val t = D at *
      generalize kh key = hh at *
      generalize t.lvN = sz at *
      clear hlo hlk hkk hsp h40 HSP P4 HO hn
      go_upto_region 8 with fail
      go_cut [11] (fun s wx => s = .int .i64 A ∧ Below w4.heap.size w4 wx)
      case first =>
        go_wp2_with fail
        go_region_law (first
          | (go_simp; go_at_call 64; refine (unhide HFD _).mono ?_; rintro e w6 ⟨rfl, n6, rfl⟩; go_simp)
          | (go_simp; go_at_call 65; refine (unhide HLD _ (below_drewN (Below.refl _ _) 1)).mono ?_; rintro e w5 ⟨ql, rfl, hB5, n5, rfl⟩; (have cl : w4.cell? ⟨ql, 2, none⟩ = some (.string lh) := (by have h := hB5.cell 2 rfl; rw [unhide HLH] at h; exact h)); go_simp))
        all_goals
          go_wp2_with fail
          go_meet
          exact ⟨rfl, below_drewN (Below.refl _ _) _⟩
      case rest =>
        obtain ⟨rfl, hbc⟩ := hcut
        have HBC0 := hide hbc
        have B5 := hide ((unhide B4).trans (hbc.mono (unhide B4).size))
        have R5 := hide ((unhide R4).below hbc)
        have HSI2 := hide (unhide HSI wc hbc)
        clear hbc B4 R4 HLD HFD HSI q2 QB
        have hA256 := unhide HAT
        obtain ⟨w5, hw5⟩ : ∃ w5, w5 = wc := ⟨_, rfl⟩
        subst hw5
        go_upto_region 9 with fail
        go_cut [54] (fun s wx => s = .bool (decide (A < 256 ∧ sz = 40)) ∧ Below w5.heap.size w5 wx)
        case first =>
          by_cases hA : A < 256
          · have hA2 : (A : Int) < 256 := by omega
            go_wp2_with fail
            refine (unhide HSI2).mono ?_
            rintro e w6 ⟨rfl, hb6⟩
            have HB6 := hide hb6
            have HD : Hid (decide ((sz : Int) = 40) = decide (A < 256 ∧ sz = 40)) := hide (by
              by_cases h : sz = 40
              · simp [h, hA]
              · have : ¬ (sz : Int) = 40 := by omega
                simp [h, this])
            clear hb6
            go_wp2_with fail
            go_meet
            exact ⟨by first | (rw [← unhide HD]; rfl) | (rw [← unhide HD]; simp), unhide HB6⟩
          · have hA2 : ¬ (A : Int) < 256 := by omega
            have HD : Hid (decide (A < 256 ∧ sz = 40) = false) := hide (by simp [hA])
            go_wp2_with fail
            go_meet
            exact ⟨by rw [unhide HD], Below.refl _ _⟩
        case rest =>
          obtain ⟨rfl, hbd⟩ := hcut
          have HBD := hide ((unhide HBC0).trans (hbd.mono (unhide HBC0).size))
          have B6 := hide ((unhide B5).trans (hbd.mono (unhide B5).size))
          have R6 := hide ((unhide R5).below hbd)
          clear hbd B5 R5 HSI2 HBC0
          by_cases hT : A < 256 ∧ sz = 40
          · rw [decide_eq_true hT]
            have HO7 : Hid (mpOut (.mk k v a ks) key val = (brOf none, 7)) := hide (by rw [unhide HOA, if_pos hT])
            clear hT HOA HWI
            have r0 := (unhide R6).cell 0 rfl
            have r1 := (unhide R6).cell 1 rfl
            have r2 := (unhide R6).cell 2 rfl
            have r3 := (unhide R6).cell 3 rfl
            have f0 := (unhide R6).fro 0
            have f1 := (unhide R6).fro 1
            have f2 := (unhide R6).fro 2
            have f3 := (unhide R6).fro 3
            have hE := end4b (b := brOf none) (m := rb + 1) (unhide R6) (unhide B6) (BrO.nil (fun x => rb + 1 ≤ x ∧ x < _) none 0 (by unfold maxLen; omega)) (unhide HSZ) (Nat.lt_succ_self _)
            have z0 := hE.1.cell 0 rfl
            have z1 := hE.1.cell 1 rfl
            have z2 := hE.1.cell 2 rfl
            have z3 := hE.1.cell 3 rfl
            have HE := hide hE
            unfold set4 at z0 z1 z2 z3
            dsimp only [brOf, Br.key, Br.val, Br.at_] at z0 z1 z2 z3
            clear hE
            go_wp2_with fail
            refine bodyPost_ret (v := .tuple #[.agg #[.string ⟨#[]⟩, .string ⟨#[]⟩, .int .i64 0, .slice none 0 0], .int .i64 7]) (by simp [results, Tryd.results26, go_sem, z0, z1, z2, z3]) rfl ?_
            exact ⟨_, by rw [unhide HO7], by rw [unhide HO7]; exact (unhide HE).2.1, (unhide HE).2.2⟩
          · rw [decide_eq_false hT]
            have HO0 : Hid (mpOut (.mk k v a ks) key val = (D.toBr, 0)) := hide (by rw [unhide HOA, if_neg hT])
            have HWC := hide (unhide HWI wc (unhide HBD))
            clear hT HOA HWI
            go_wp2_with fail
            refine (unhide HWC).mono ?_
            rintro e w7 ⟨p7, rfl, hn7, hT7⟩
            have B7 := hide ((unhide B6).trans (hT7.below (B := w.heap.size) (unhide B6).size (fun b hb e => by have := (unhide HS23).1; omega)))
            have R7 := hide ((unhide R6).kept hT7 (fun e => by have := (unhide HS23).2.1; omega))
            have HBC := hide (branch_any hn7 (unhide HPO) w7 (Below.refl _ _))
            clear hn7 hT7 HWC B6 R6
            go_wp2_with fail
            refine (unhide HBC).mono ?_
            rintro e w8 ⟨sa5, n5, c5, rfl, hO5, hb5⟩
            have R5 := hide ((unhide R7).below hb5)
            have B5 := hide ((unhide B7).trans (hb5.mono (unhide B7).size))
            have hE := end4b (unhide R5) (unhide B5) hO5 (unhide HSZ) (unhide R7).1
            clear hb5 hO5 HBC B7
            have r0 := (unhide R5).cell 0 rfl
            have r1 := (unhide R5).cell 1 rfl
            have r2 := (unhide R5).cell 2 rfl
            have r3 := (unhide R5).cell 3 rfl
            have f0 := (unhide R5).fro 0
            have f1 := (unhide R5).fro 1
            have f2 := (unhide R5).fro 2
            have f3 := (unhide R5).fro 3
            have z0 := hE.1.cell 0 rfl
            have z1 := hE.1.cell 1 rfl
            have z2 := hE.1.cell 2 rfl
            have z3 := hE.1.cell 3 rfl
            have HE := hide hE
            unfold set4 at z0 z1 z2 z3
            clear hE
            go_wp2_with fail
            refine bodyPost_ret (v := .tuple #[.agg #[.string D.toBr.key, .string D.toBr.val, .int .i64 D.toBr.at_, .slice sa5 n5 c5], .int .i64 0]) (by simp [results, Tryd.results26, go_sem, z0, z1, z2, z3]) rfl ?_
            exact ⟨_, by rw [unhide HO0], by rw [unhide HO0]; exact (unhide HE).2.1, (unhide HE).2.2⟩
  · have HO : Hid (mpOut (.mk k v a ks) key val = (brOf none, mx)) := hide (by rw [unhide HOD, if_neg hmx])
    have hcb : (mx != 0) = true := by simpa using hmx
    clear HOD HMZ hmx
    have r0 := (unhide R3).cell 0 rfl
    have r1 := (unhide R3).cell 1 rfl
    have r2 := (unhide R3).cell 2 rfl
    have r3 := (unhide R3).cell 3 rfl
    have f0 := (unhide R3).fro 0
    have f1 := (unhide R3).fro 1
    have f2 := (unhide R3).fro 2
    have f3 := (unhide R3).fro 3
    have hE := end4b (b := brOf none) (m := rb + 1) (unhide R3) (unhide B3) (BrO.nil (fun x => rb + 1 ≤ x ∧ x < _) none 0 (by unfold maxLen; omega)) (unhide HSZ) (Nat.lt_succ_self _)
    have z0 := hE.1.cell 0 rfl
    have z1 := hE.1.cell 1 rfl
    have z2 := hE.1.cell 2 rfl
    have z3 := hE.1.cell 3 rfl
    have HE := hide hE
    unfold set4 at z0 z1 z2 z3
    dsimp only [brOf, Br.key, Br.val, Br.at_] at z0 z1 z2 z3
    clear hE
    go_wp2_with fail
    refine bodyPost_ret (v := .tuple #[.agg #[.string ⟨#[]⟩, .string ⟨#[]⟩, .int .i64 0, .slice none 0 0], .int .i64 mx]) (by simp [results, Tryd.results26, go_sem, z0, z1, z2, z3]) rfl ?_
    exact ⟨_, by rw [unhide HO], by rw [unhide HO]; exact (unhide HE).2.1, (unhide HE).2.2⟩
end Go.Proofs.YtcmdilmjdnbfkaaDoor.Sha
