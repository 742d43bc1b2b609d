/- A leaf put into a map, pure; newFork over a map; (*mapNode).with. (*mapNode).without: the map without the leaf that a hash's bits lead to. impl.MapDrop. The leaves of a map, ranged over as a function: visit, leaves, size. (*mapNode).with. (*mapNode).put; a map's size, its pointer nil or not; hashes that part at no bit are one. Pure: what a put and a drop keep of a map: bits that rise, hashes apart. -/
import Derived.Test.YtkcpdjeemdlgcaaDoorBrV
import Derived.Deep.RegionLaw
import Derived.Deep.QuietTactic
import Derived.BigQuiet
import Derived.Test.YtkcpdjeemdlgcaaDoorBrBh
import Derived.RangeFuncNested
import Derived.RangeFuncBound
import Derived.RangeFuncCalls
import Derived.RangeFuncLeaves
import Derived.RangeFuncFrom
import Derived.Shelf.Abstract
import Derived.Shelf.RegionOpen
import Derived.WalkKit
import Derived.OwnWalkIn
import Derived.TacticsInMore
import Derived.LoopNIn
import Derived.LoopIn
import Derived.Deep.DeepCutAuto
namespace Go.Proofs.YtkcpdjeemdlgcaaDoor.Sha
open Go.ChangeShapes Go.WideShapes Go.ChangeAt Go.RowKit
set_option linter.unusedVariables false
set_option linter.unusedSimpArgs false

/-- How many leaves. -/
def Tr.lvN : Tr → Nat
  | .leaf _ _ => 1
  | .fork _ _ l r => l.lvN + r.lvN
/-- Hashes below a fork: alike ahead of its bit, the first kid's with 0 there. -/
def Sep : Tr → Prop
  | .leaf _ _ => True
  | .fork a h l r => (∀ i, i < a → bitN h i = bitN l.hash i) ∧ fd l.hash r.hash = a ∧ bitN l.hash a = 0 ∧ Sep l ∧ Sep r
theorem readV_sep : ∀ (n : Nat) (b : Br), SizeOf.sizeOf b ≤ n → ∀ (least : Int) (room : Nat) (t : Tr) (r : Nat), readV b least room = some (t, r) → Sep t ∧ r + t.lvN = room := by
  intro n
  induction n with
  | zero => intro b hb; exact absurd hb (by cases b; simp only [Br.mk.sizeOf_spec]; omega)
  | succ n ih =>
    intro b hb least room t r h
    obtain ⟨k, v, a, ks⟩ := b
    by_cases ha : a = 256
    · rw [readV_leaf ha] at h
      split at h
      · rename_i hc
        cases h
        exact ⟨trivial, by show room - 1 + 1 = room; omega⟩
      · cases h
    · by_cases hc : least ≤ a ∧ a ≤ 255 ∧ ks.length = 2 ∧ k.size = 0 ∧ v.size = 0
      · obtain ⟨b0, b1, rfl⟩ := two_of hc.2.2.1
        rw [readV_fork ⟨hc.1, hc.2.1, hc.2.2.2.1, hc.2.2.2.2⟩] at h
        have z0 := kid_lt (k := k) (v := v) (a := a) (l := [b0, b1]) (b := b0) (by simp)
        have z1 := kid_lt (k := k) (v := v) (a := a) (l := [b0, b1]) (b := b1) (by simp)
        cases h0 : readV b0 (a + 1) room with
        | none => rw [h0] at h; cases h
        | some p0 =>
          obtain ⟨t0, r0⟩ := p0
          rw [h0] at h
          dsimp only at h
          cases h1 : readV b1 (a + 1) r0 with
          | none => rw [h1] at h; cases h
          | some p1 =>
            obtain ⟨t1, r1⟩ := p1
            rw [h1] at h
            dsimp only at h
            split at h
            · rename_i hf
              cases h
              obtain ⟨e0, n0⟩ := ih b0 (by omega) _ _ _ _ h0
              obtain ⟨e1, n1⟩ := ih b1 (by omega) _ _ _ _ h1
              exact ⟨⟨fun _ _ => rfl, hf.1, hf.2, e0, e1⟩, by show r + (t0.lvN + t1.lvN) = room; omega⟩
            · cases h
      · rw [readV_no ha hc] at h; cases h
def SepO : Option Tr → Prop
  | none => True
  | some t => Sep t ∧ t.lvN ≤ 40
theorem mapV_sep {b : Br} {o : Option Tr} (h : mapV b = some o) : SepO o := by
  unfold mapV at h
  split at h
  · cases h; trivial
  · cases hr : readV b 0 40 with
    | none => rw [hr] at h; cases h
    | some p =>
      obtain ⟨t, r⟩ := p
      rw [hr] at h
      cases h
      obtain ⟨h1, h2⟩ := readV_sep _ b (Nat.le_refl _) 0 40 t r hr
      exact ⟨h1, by omega⟩
theorem fdF_comm (x y : ByteArray) : ∀ n i, fdF x y n i = fdF y x n i
  | 0, i => rfl
  | n + 1, i => by
    unfold fdF
    by_cases h : bitN x i = bitN y i
    · rw [if_pos h, if_pos h.symm, fdF_comm x y n]
    · rw [if_neg h, if_neg (fun e => h e.symm)]
theorem fd_comm (x y : ByteArray) : fd x y = fd y x := fdF_comm x y 256 0
theorem lead_alike (h : ByteArray) : ∀ (t : Tr) (m : Nat), Rise m t → Sep t → ∀ i, i < t.at_ → bitN (kh (leadL h t).1) i = bitN t.hash i
  | .leaf k v, m, hr, hs, i, hi => rfl
  | .fork a hh l r, m, hr, hs, i, hi => by
    obtain ⟨r0, r1, r2, r3⟩ := hr
    obtain ⟨s0, s1, s2, s3, s4⟩ := hs
    have hi' : i < a := hi
    have hl := r2.le
    have hrr := r3.le
    unfold leadL
    split
    · rw [lead_alike h l _ r2 s3 i (by omega)]
      show _ = bitN hh i
      rw [s0 i hi']
    · rw [lead_alike h r _ r3 s4 i (by omega)]
      show _ = bitN hh i
      rw [s0 i hi']
      exact (((fd_iff l.hash r.hash a r1).1 s1).1 i hi').symm
theorem lead_bit (h : ByteArray) {a : Nat} {hh : ByteArray} {l r : Tr} {m : Nat} (hr : Rise m (.fork a hh l r)) (hs : Sep (.fork a hh l r)) : bitN (kh (leadL h (.fork a hh l r)).1) a = bitN h a := by
  obtain ⟨r0, r1, r2, r3⟩ := hr
  obtain ⟨s0, s1, s2, s3, s4⟩ := hs
  have hl := r2.le
  have hrr := r3.le
  unfold leadL
  split
  · rename_i hb
    rw [lead_alike h l _ r2 s3 a (by omega), s2, hb]
  · rename_i hb
    rw [lead_alike h r _ r3 s4 a (by omega)]
    have h1 := ((fd_iff l.hash r.hash a r1).1 s1).2
    rcases bitN_01 r.hash a with e | e
    · exact absurd (s2.trans e.symm) h1
    · rcases bitN_01 h a with e' | e'
      · exact absurd e' hb
      · rw [e, e']
/-- A fork of a new leaf and a map. -/
def forkT (a : Nat) (h k v : ByteArray) (t : Tr) : Tr := if bitN h a = 0 then .fork a h (.leaf k v) t else .fork a h t (.leaf k v)
/-- The map with a leaf. -/
def putT (h : ByteArray) (at_ : Nat) (k v : ByteArray) : Tr → Tr
  | .leaf k' v' => if at_ = 256 then .leaf k v else forkT at_ h k v (.leaf k' v')
  | .fork a hh l r => if a < at_ then (if bitN h a = 0 then .fork a hh (putT h at_ k v l) r else .fork a hh l (putT h at_ k v r)) else forkT at_ h k v (.fork a hh l r)
theorem forkT_ok {a : Nat} {h k v : ByteArray} {t : Tr} (ha : a < 256) (hh : h.size = 32) (hk : okK k = true) (hv : v.size ≤ 60) (ht : TrOK t) : TrOK (forkT a h k v t) := by
  unfold forkT; split
  · exact ⟨ha, hh, ⟨hk, hv⟩, ht⟩
  · exact ⟨ha, hh, ht, ⟨hk, hv⟩⟩
theorem putT_ok (h : ByteArray) (a : Nat) (k v : ByteArray) (ha : a ≤ 256) (hh : h.size = 32) (hk : okK k = true) (hv : v.size ≤ 60) : ∀ t, TrOK t → TrOK (putT h a k v t)
  | .leaf k' v', ho => by
    unfold putT; split
    · exact ⟨hk, hv⟩
    · exact forkT_ok (by omega) hh hk hv ho
  | .fork b hb l r, ho => by
    unfold putT; split
    · split
      · exact ⟨ho.1, ho.2.1, putT_ok h a k v ha hh hk hv l ho.2.2.1, ho.2.2.2⟩
      · exact ⟨ho.1, ho.2.1, ho.2.2.1, putT_ok h a k v ha hh hk hv r ho.2.2.2⟩
    · exact forkT_ok (by have := ho.1; omega) hh hk hv ho
/-- What with answers: the nodes that were there, the leaf's, and new ones. -/
def WithR (S : Nat → Prop) (q : Nat) (t : Tr) (w : World) (e : Ending) (w' : World) : Prop := ∃ p, e = .returned (.pointer (some ⟨p, 0, none⟩)) ∧ Nd w' (fun b => S b ∨ b = q ∨ (w.heap.size ≤ b ∧ b < w'.heap.size)) p t ∧ Touch S w w'
theorem newFork_nd {w : World} {S : Nat → Prop} {p q a : Nat} {t : Tr} {k v : ByteArray} (hn : Nd w S p t) (ho : t.hash.size = 32) (hS : ∀ b, S b → b < w.heap.size) (hq : Blk w q (lfC k v)) (hqS : ¬ S q) (hk : k.size ≤ 65536) (ha : a < 256) (hxy : bitN (kh k) a ≠ bitN t.hash a) :
    Calls Tryd.prog 96 #[.int .i64 a, .pointer (some ⟨q, 0, none⟩), .pointer (some ⟨p, 0, none⟩)] w fun e w' => WithR S q (forkT a (kh k) k v t) w e w' := by
  refine (newFork_any a q p (kh k) t.hash w ha (kh_size hk) ho hxy hq.1 hn.here.2 (hq.cell 2 rfl) hn.hashC).mono ?_
  rintro e w' ⟨f, rfl, hf, hB, hb⟩
  have hq' := hq.1
  have hnq := hq.below hb
  have hnn := hn.blw hb
  refine ⟨f, rfl, ?_, Touch.ofBelow hb⟩
  have hfl := hB.1
  unfold forkT
  unfold kidsV at hB
  by_cases hb0 : bitN (kh k) a = 0
  · rw [if_pos hb0] at hB ⊢
    exact .fork _ (fun b => b = q) S f a (kh k) (.leaf k v) t q p (.inr (.inr ⟨hf, hfl⟩)) (fun b e => ⟨.inr (.inl e), by omega⟩) (fun b e => ⟨.inl e, by have := hS b e; omega⟩) (fun b e h => hqS (e ▸ h)) hB (.leaf _ q k v rfl hnq) hnn
  · rw [if_neg hb0] at hB ⊢
    exact .fork _ S (fun b => b = q) f a (kh k) t (.leaf k v) p q (.inr (.inr ⟨hf, hfl⟩)) (fun b e => ⟨.inl e, by have := hS b e; omega⟩) (fun b e => ⟨.inr (.inl e), by omega⟩) (fun b e h => hqS (h ▸ e)) hB hnn (.leaf _ q k v rfl hnq)
theorem hash_of_ok {t : Tr} (h : TrOK t) : t.hash.size = 32 := by
  cases t with
  | leaf k v => exact kh_size (by have := (okK_iff.1 h.1).2; omega)
  | fork a hh l r => exact h.2.1
end Go.Proofs.YtkcpdjeemdlgcaaDoor.Sha
namespace Go.Proofs.YtkcpdjeemdlgcaaDoor.Sha
open Go.ChangeShapes Go.WideShapes Go.ChangeAt Go.RowKit
set_option linter.unusedVariables false
set_option linter.unusedSimpArgs false

/-- The map without the leaf that a hash's bits lead to. -/
def dropT (h : ByteArray) : Tr → Option Tr
  | .leaf _ _ => none
  | .fork a hh l r => if bitN h a = 0 then (match dropT h l with | none => some r | some l' => some (.fork a hh l' r)) else (match dropT h r with | none => some l | some r' => some (.fork a hh l r'))
theorem dropT_ok (h : ByteArray) : ∀ (t : Tr), TrOK t → OkO (dropT h t)
  | .leaf _ _, ho => trivial
  | .fork a hh l r, ho => by
    have h1 := dropT_ok h l ho.2.2.1
    have h2 := dropT_ok h r ho.2.2.2
    unfold dropT
    split
    · cases he : dropT h l with
      | none => exact ho.2.2.2
      | some l' => rw [he] at h1; exact ⟨ho.1, ho.2.1, h1, ho.2.2.2⟩
    · cases he : dropT h r with
      | none => exact ho.2.2.1
      | some r' => rw [he] at h2; exact ⟨ho.1, ho.2.1, ho.2.2.1, h2⟩
/-- What without answers. -/
def DropR (S : Nat → Prop) (o : Option Tr) (w : World) (e : Ending) (w' : World) : Prop := ∃ pv, e = .returned (.pointer pv) ∧ PtrM w' S pv o ∧ Touch S w w'
set_option maxRecDepth 100000 in
set_option maxHeartbeats 4000000 in
theorem without_any (h : ByteArray) (hh : h.size = 32) : ∀ (t : Tr) (m : Nat) (w : World) (S : Nat → Prop) (p : Nat), Nd w S p t → Rise m t →
    Calls Tryd.prog 47 #[.pointer (some ⟨p, 0, none⟩), .string h] w fun e w' => DropR S (dropT h t) w e w' := by
  intro t
  induction t with
  | leaf k v =>
    intro m w S p hn hr
    cases hn with
    | leaf S p k v h0 h1 =>
      have x3 := h1.cell 3 rfl
      have HG : Hid (DropR S (dropT h (.leaf k v)) w (.returned (.pointer none)) w) := hide ⟨none, rfl, rfl, Touch.refl _ _⟩
      clear h1 hr
      go_enter Tryd.func47, Tryd.ntmps47
      go_wp2_with fail
      go_ret
      exact unhide HG
  | fork a hv l r ihl ihr =>
    intro m w S p hn hr
    cases hn with
    | fork S Sl Sr p a hv l r pl pr h0 h1 h2 h3 h4 h5 h6 =>
      obtain ⟨r0, r1, r2, r3⟩ := hr
      have X := hide h4
      have x3 := h4.cell 3 rfl
      have x4 := h4.cell 4 rfl
      have x5 := h4.cell 5 rfl
      have HB := hide (fun wx => hashBit_any h a wx hh r1)
      have hab : ((a : Int) == 256) = false := by rw [beq_eq_false_iff_ne]; omega
      have HN5 := hide h5
      have HN6 := hide h6
      have HS := hide (And.intro h0 (And.intro h1 (And.intro h2 h3)))
      clear h1 h2 h3 h4 h5 h6 h0
      rcases bitN_01 h a with hb | hb
      · have HC := hide (ihl _ w Sl pl (unhide HN5) r2)
        have HD : Hid (dropT h (.fork a hv l r) = match dropT h l with | none => some r | some l' => some (.fork a hv l' r)) := hide (by conv => lhs; unfold dropT; rw [if_pos hb])
        rw [hb] at HB
        have hwr : IntKind.i64.wrap (1 : Int) = 1 := by decide
        clear ihl ihr
        generalize dropT h (.fork a hv l r) = D at *
        generalize dropT h l = d at *
        go_enter Tryd.func47, Tryd.ntmps47
        go_wp2_with fail
        refine (unhide HB w).mono ?_
        rintro e w9 ⟨rfl, hw9⟩
        subst w9
        go_wp2_with fail
        refine (unhide HC).mono ?_
        rintro e w2 ⟨pv, rfl, hp, hT⟩
        have X2 := (unhide X).kept hT (fun e => ((unhide HS).2.1 p e).2 rfl)
        have NO2 := (unhide HN6).touch hT (fun b hb e => (unhide HS).2.2.2 b e hb)
        have TS : Touch S w w2 := (Touch.refl S w).trans hT (fun b _ e => ((unhide HS).2.1 b e).1)
        have y5 := X2.cell 5 rfl
        have y4 := X2.cell 4 rfl
        have g4 := X2.fro 4
        have HD2 := hide (unhide HD)
        clear x3 x4 x5 HC
        cases d with
        | none =>
          obtain rfl : pv = none := hp
          have HF : Hid (DropR S D w (.returned (.pointer (some ⟨pr, 0, none⟩))) w2) := hide ⟨_, rfl, by rw [show D = some r from unhide HD]; exact ⟨pr, rfl, NO2.mono (fun b hb => ((unhide HS).2.2.1 b hb).1)⟩, TS⟩
          clear NO2 TS X2 hT
          go_wp2_with fail
          go_ret
          exact unhide HF
        | some d' =>
          obtain ⟨q, rfl, hq⟩ := hp
          have HF : Hid (DropR S D w (.returned (.pointer (some ⟨p, 0, none⟩))) (w2.setCell ⟨p, 4, none⟩ (.pointer (some ⟨q, 0, none⟩)))) := hide (by
            have XS := X2.set 4 (.pointer (some ⟨q, 0, none⟩)) (by simp [fkC])
            have tp := (Touch.refl (fun b => b = p) w2).setCell ⟨p, 4, none⟩ (.pointer (some ⟨q, 0, none⟩)) (fun _ => rfl)
            have NK := hq.touch tp (fun b hb e => ((unhide HS).2.1 b hb).2 e)
            have NO := NO2.touch tp (fun b hb e => ((unhide HS).2.2.1 b hb).2 e)
            refine ⟨_, rfl, ?_, TS.trans tp (fun b _ e => by rw [e]; exact (unhide HS).1)⟩
            rw [show D = some (.fork a hv d' r) from unhide HD]
            exact ⟨p, rfl, .fork S Sl Sr p a hv d' r q pr (unhide HS).1 (unhide HS).2.1 (unhide HS).2.2.1 (unhide HS).2.2.2 XS NK NO⟩)
          clear hq NO2 TS X2 hT
          go_wp2_with fail
          go_ret
          exact unhide HF
      · have HC := hide (ihr _ w Sr pr (unhide HN6) r3)
        have HD : Hid (dropT h (.fork a hv l r) = match dropT h r with | none => some l | some r' => some (.fork a hv l r')) := hide (by conv => lhs; unfold dropT; rw [if_neg (by omega)])
        rw [hb] at HB
        have hwr : IntKind.i64.wrap (0 : Int) = 0 := by decide
        clear ihl ihr
        generalize dropT h (.fork a hv l r) = D at *
        generalize dropT h r = d at *
        go_enter Tryd.func47, Tryd.ntmps47
        go_wp2_with fail
        refine (unhide HB w).mono ?_
        rintro e w9 ⟨rfl, hw9⟩
        subst w9
        go_wp2_with fail
        refine (unhide HC).mono ?_
        rintro e w2 ⟨pv, rfl, hp, hT⟩
        have X2 := (unhide X).kept hT (fun e => ((unhide HS).2.2.1 p e).2 rfl)
        have NO2 := (unhide HN5).touch hT (fun b hb e => (unhide HS).2.2.2 b hb e)
        have TS : Touch S w w2 := (Touch.refl S w).trans hT (fun b _ e => ((unhide HS).2.2.1 b e).1)
        have y4 := X2.cell 4 rfl
        have y5 := X2.cell 5 rfl
        have g5 := X2.fro 5
        have HD2 := hide (unhide HD)
        clear x3 x4 x5 HC
        cases d with
        | none =>
          obtain rfl : pv = none := hp
          have HF : Hid (DropR S D w (.returned (.pointer (some ⟨pl, 0, none⟩))) w2) := hide ⟨_, rfl, by rw [show D = some l from unhide HD]; exact ⟨pl, rfl, NO2.mono (fun b hb => ((unhide HS).2.1 b hb).1)⟩, TS⟩
          clear NO2 TS X2 hT
          go_wp2_with fail
          go_ret
          exact unhide HF
        | some d' =>
          obtain ⟨q, rfl, hq⟩ := hp
          have HF : Hid (DropR S D w (.returned (.pointer (some ⟨p, 0, none⟩))) (w2.setCell ⟨p, 5, none⟩ (.pointer (some ⟨q, 0, none⟩)))) := hide (by
            have XS := X2.set 5 (.pointer (some ⟨q, 0, none⟩)) (by simp [fkC])
            have tp := (Touch.refl (fun b => b = p) w2).setCell ⟨p, 5, none⟩ (.pointer (some ⟨q, 0, none⟩)) (fun _ => rfl)
            have NK := hq.touch tp (fun b hb e => ((unhide HS).2.2.1 b hb).2 e)
            have NO := NO2.touch tp (fun b hb e => ((unhide HS).2.1 b hb).2 e)
            refine ⟨_, rfl, ?_, TS.trans tp (fun b _ e => by rw [e]; exact (unhide HS).1)⟩
            rw [show D = some (.fork a hv l d') from unhide HD]
            exact ⟨p, rfl, .fork S Sl Sr p a hv l d' pl q (unhide HS).1 (unhide HS).2.1 (unhide HS).2.2.1 (unhide HS).2.2.2 XS NO NK⟩)
          clear hq NO2 TS X2 hT
          go_wp2_with fail
          go_ret
          exact unhide HF
end Go.Proofs.YtkcpdjeemdlgcaaDoor.Sha
namespace Go.Proofs.YtkcpdjeemdlgcaaDoor.Sha
open Go.ChangeShapes Go.WideShapes Go.ChangeAt Go.RowKit
set_option linter.unusedVariables false
set_option linter.unusedSimpArgs false

/-- What MapDrop answers of a map: the branch, the code. -/
def mdO (o : Option Tr) (key : ByteArray) : Br × Int := match o with
  | none => (brOf none, 5)
  | some t => if (leadL (kh key) t).1 = key then (brOf (dropT (kh key) t), 0) else (brOf none, 5)
def mdOut (b : Br) (key : ByteArray) : Br × Int := if txC key.size 1 24 = 0 then (match mapV b with
    | none => (brOf none, 1)
    | some o => mdO o key)
  else (brOf none, txC key.size 1 24)
/-- A branch as a value, its slices of the call's own. -/
def BrV (m : Nat) (w : World) (u : Value) (b : Br) : Prop := ∃ sa n cap, u = .agg #[.string b.key, .string b.val, .int .i64 b.at_, .slice sa n cap] ∧ BrO w (fun x => m ≤ x ∧ x < w.heap.size) (.slice sa n cap) b.kids
theorem brV_nil (m : Nat) (w : World) : BrV m w (.agg #[.string ⟨#[]⟩, .string ⟨#[]⟩, .int .i64 0, .slice none 0 0]) (brOf none) := ⟨none, 0, 0, rfl, .nil _ _ _ (by unfold maxLen; omega)⟩
set_option maxRecDepth 100000 in
set_option maxHeartbeats 1000000 in
theorem branch_nil (w : World) : Calls Tryd.prog 33 #[.pointer none] w fun e w' => BranchR (brOf none) w e w' := by
  have HGR : Hid (∀ w', Below w.heap.size w w' → BranchR (brOf none) w (.returned (.agg #[.string ⟨#[]⟩, .string ⟨#[]⟩, .int .i64 0, .slice none 0 0])) w') := hide (fun w' hb => ⟨none, 0, 0, rfl, .nil _ _ _ (by unfold maxLen; omega), hb⟩)
  have R1 := hide (Blk.new w #[.string ⟨#[]⟩, .string ⟨#[]⟩, .int .i64 0, .slice none 0 0] 27 w.heap.size rfl)
  have B1 := hide ((Below.refl w.heap.size w).alloc (Nat.le_refl _) (.cells #[.string ⟨#[]⟩, .string ⟨#[]⟩, .int .i64 0, .slice none 0 0] 27))
  have r0 := (unhide R1).cell 0 rfl
  have r1 := (unhide R1).cell 1 rfl
  have r2 := (unhide R1).cell 2 rfl
  have r3 := (unhide R1).cell 3 rfl
  go_enter Tryd.func33, Tryd.ntmps33
  go_wp2_with fail
  refine bodyPost_ret (v := .agg #[.string ⟨#[]⟩, .string ⟨#[]⟩, .int .i64 0, .slice none 0 0]) (by simp [results, Tryd.results33, go_sem, r0, r1, r2, r3]) rfl ?_
  exact unhide HGR _ (unhide B1)
/-- Behind the last stores. -/
theorem end4b {w wx : World} {R m : Nat} {x0 x1 x2 x3 : Value} {b : Br} {sa : Option Addr} {n cap : Nat} (hX : Blk wx R [x0, x1, x2, x3]) (hb : Below w.heap.size w wx) (ho : BrO wx (fun x => m ≤ x ∧ x < wx.heap.size) (.slice sa n cap) b.kids) (h0 : w.heap.size ≤ R) (h1 : R < m) :
    Blk (set4 wx R (.string b.key) (.string b.val) (.int .i64 b.at_) (.slice sa n cap)) R [.string b.key, .string b.val, .int .i64 b.at_, .slice sa n cap] ∧ BrV w.heap.size (set4 wx R (.string b.key) (.string b.val) (.int .i64 b.at_) (.slice sa n cap)) (.agg #[.string b.key, .string b.val, .int .i64 b.at_, .slice sa n cap]) b ∧ Below w.heap.size w (set4 wx R (.string b.key) (.string b.val) (.int .i64 b.at_) (.slice sa n cap)) := by
  have ht := set4_touch wx R (.string b.key) (.string b.val) (.int .i64 b.at_) (.slice sa n cap)
  have hts := ht.size
  refine ⟨set4_blk hX _ _ _ _, ⟨sa, n, cap, rfl, (ho.touch ht (fun q hq e => by omega)).mono (fun q hq => ⟨by omega, by omega⟩)⟩, hb.trans (ht.below hb.size (fun q hq e => by omega))⟩
set_option maxRecDepth 100000 in
set_option maxHeartbeats 4000000 in
theorem implMapDrop_any (k v : ByteArray) (a : Int) (ks : List Br) (key : ByteArray) (S : Nat → Prop) (kv : Value) (w : World) (hB : Brs S w kv ks) (hk : k.size ≤ maxLen) (hv : v.size ≤ maxLen) (hky : key.size ≤ 1048576) (ht : Tab w) :
    Calls Tryd.prog 17 #[.agg #[.string k, .string v, .int .i64 a, kv], .string key] w fun e w' => ∃ u, e = .returned (.tuple #[u, .int .i64 (mdOut (.mk k v a ks) key).2]) ∧ BrV w.heap.size w' u (mdOut (.mk k v a ks) key).1 ∧ Below w.heap.size w w' := by
  obtain ⟨sa, cap, rfl, hcap, hcm⟩ := hB.shape
  have B0 := hide ((Below.refl w.heap.size w).alloc (Nat.le_refl _) (.cells #[.string k, .string v, .int .i64 a, .slice sa ks.length cap] 27))
  have R0 := hide (Blk.new (w.alloc (.cells #[.string k, .string v, .int .i64 a, .slice sa ks.length cap] 27)) #[.string ⟨#[]⟩, .string ⟨#[]⟩, .int .i64 0, .slice none 0 0] 27 (w.heap.size + 1) (by simp))
  have B1 := hide ((unhide B0).alloc (unhide B0).size (.cells #[.string ⟨#[]⟩, .string ⟨#[]⟩, .int .i64 0, .slice none 0 0] 27))
  have HR := hide (openMap_any k v a ks key S _ _ ((hB.blw (unhide B0)).blw ((Below.refl _ _).alloc (Nat.le_refl _) (.cells #[.string ⟨#[]⟩, .string ⟨#[]⟩, .int .i64 0, .slice none 0 0] 27))) hk hv hky (ht.below (unhide B1)))
  have HT := hide ht
  have HRI := hide (fun o => mapV_rise (b := .mk k v a ks) (o := o))
  have HBR := hide (fun o => mapV_br (b := .mk k v a ks) (o := o))
  have HSZ := hide (show w.heap.size ≤ w.heap.size + 1 by omega)
  clear hB ht hk hv B0
  go_enter Tryd.func17, Tryd.ntmps17
  go_wp2_with fail
  generalize (w.alloc (.cells #[.string k, .string v, .int .i64 a, .slice sa ks.length cap] 27)).alloc (.cells #[.string ⟨#[]⟩, .string ⟨#[]⟩, .int .i64 0, .slice none 0 0] 27) = w1 at *
  generalize w.heap.size + 1 = rb at *
  refine (unhide HR).mono ?_
  rintro e w2 ⟨pv, c, rfl, hb, hcs⟩
  have B2 := hide ((unhide B1).trans (hb.mono (unhide B1).size))
  have R2 := hide ((unhide R0).below hb)
  have S1 := hide (And.intro (unhide R0).1 (And.intro (unhide B1).size hb.size))
  clear hb HR R0 B1
  rcases hcs with ⟨h1, h2, h3⟩ | ⟨h1, h2, h3, h4⟩ | ⟨h1, h2, o, h3, h4⟩
  · have HO : Hid (mdOut (.mk k v a ks) key = (brOf none, c)) := hide (by unfold mdOut; rw [if_neg h1, h2])
    have hcb : (c != 0) = true := by rw [h2]; simpa using h1
    clear h1 h2 h3
    have r0 := (unhide R2).cell 0 rfl
    have r1 := (unhide R2).cell 1 rfl
    have r2 := (unhide R2).cell 2 rfl
    have r3 := (unhide R2).cell 3 rfl
    have f0 := (unhide R2).fro 0
    have f1 := (unhide R2).fro 1
    have f2 := (unhide R2).fro 2
    have f3 := (unhide R2).fro 3
    have hE := end4b (b := brOf none) (m := rb + 1) (unhide R2) (unhide B2) (BrO.nil (fun x => rb + 1 ≤ x ∧ x < _) none 0 (by unfold maxLen; omega)) (unhide HSZ) (Nat.lt_succ_self _)
    have z0 := hE.1.cell 0 rfl
    have z1 := hE.1.cell 1 rfl
    have z2 := hE.1.cell 2 rfl
    have z3 := hE.1.cell 3 rfl
    have HE := hide hE
    unfold set4 at z0 z1 z2 z3
    dsimp only [brOf, Br.key, Br.val, Br.at_] at z0 z1 z2 z3
    clear hE
    go_wp2_with fail
    refine bodyPost_ret (v := .tuple #[.agg #[.string ⟨#[]⟩, .string ⟨#[]⟩, .int .i64 0, .slice none 0 0], .int .i64 c]) (by simp [results, Tryd.results17, go_sem, z0, z1, z2, z3]) rfl ?_
    exact ⟨_, by rw [unhide HO], by rw [unhide HO]; exact (unhide HE).2.1, (unhide HE).2.2⟩
  · have HO : Hid (mdOut (.mk k v a ks) key = (brOf none, 1)) := hide (by unfold mdOut; rw [if_pos h1, h2])
    subst h3
    clear h1 h2 h4
    have r0 := (unhide R2).cell 0 rfl
    have r1 := (unhide R2).cell 1 rfl
    have r2 := (unhide R2).cell 2 rfl
    have r3 := (unhide R2).cell 3 rfl
    have f0 := (unhide R2).fro 0
    have f1 := (unhide R2).fro 1
    have f2 := (unhide R2).fro 2
    have f3 := (unhide R2).fro 3
    have hE := end4b (b := brOf none) (m := rb + 1) (unhide R2) (unhide B2) (BrO.nil (fun x => rb + 1 ≤ x ∧ x < _) none 0 (by unfold maxLen; omega)) (unhide HSZ) (Nat.lt_succ_self _)
    have z0 := hE.1.cell 0 rfl
    have z1 := hE.1.cell 1 rfl
    have z2 := hE.1.cell 2 rfl
    have z3 := hE.1.cell 3 rfl
    have HE := hide hE
    unfold set4 at z0 z1 z2 z3
    dsimp only [brOf, Br.key, Br.val, Br.at_] at z0 z1 z2 z3
    clear hE
    go_wp2_with fail
    refine bodyPost_ret (v := .tuple #[.agg #[.string ⟨#[]⟩, .string ⟨#[]⟩, .int .i64 0, .slice none 0 0], .int .i64 1]) (by simp [results, Tryd.results17, go_sem, z0, z1, z2, z3]) rfl ?_
    exact ⟨_, by rw [unhide HO], by rw [unhide HO]; exact (unhide HE).2.1, (unhide HE).2.2⟩
  · have hk24 := (txC_key h1).2
    have HFD := hide (find_any key hk24 w2 _ pv o h4 (unhide HRI o h3) ((unhide HT).below (unhide B2)))
    have HRO := hide (unhide HRI o h3)
    have HOK := hide (unhide HBR o h3).2
    have HPM := hide h4
    have HO : Hid (mdOut (.mk k v a ks) key = mdO o key) := hide (by unfold mdOut; rw [if_pos h1, h3])
    subst h2
    clear h1 h3 h4 HRI HBR
    go_wp2_with fail
    refine (unhide HFD).mono ?_
    rintro e w3 ⟨qv, rfl, hb3, hq⟩
    have B3 := hide ((unhide B2).trans (hb3.mono (unhide B2).size))
    have R3 := hide ((unhide R2).below hb3)
    have P3 := hide ((unhide HPM).blw hb3)
    clear hb3 HFD HPM
    rcases hq with ⟨hq1, hq2⟩ | ⟨t, q, hq1, hq2, hq3, hq4⟩
    · have HO5 : Hid (mdOut (.mk k v a ks) key = (brOf none, 5)) := hide (by
        rw [unhide HO]
        cases o with
        | none => rfl
        | some t => unfold mdO; dsimp only; rw [if_neg (hq2 t rfl)])
      subst hq1
      clear hq2 HO
      have r0 := (unhide R3).cell 0 rfl
      have r1 := (unhide R3).cell 1 rfl
      have r2 := (unhide R3).cell 2 rfl
      have r3 := (unhide R3).cell 3 rfl
      have f0 := (unhide R3).fro 0
      have f1 := (unhide R3).fro 1
      have f2 := (unhide R3).fro 2
      have f3 := (unhide R3).fro 3
      have hE := end4b (b := brOf none) (m := rb + 1) (unhide R3) (unhide B3) (BrO.nil (fun x => rb + 1 ≤ x ∧ x < _) none 0 (by unfold maxLen; omega)) (unhide HSZ) (Nat.lt_succ_self _)
      have z0 := hE.1.cell 0 rfl
      have z1 := hE.1.cell 1 rfl
      have z2 := hE.1.cell 2 rfl
      have z3 := hE.1.cell 3 rfl
      have HE := hide hE
      unfold set4 at z0 z1 z2 z3
      dsimp only [brOf, Br.key, Br.val, Br.at_] at z0 z1 z2 z3
      clear hE
      go_wp2_with fail
      refine bodyPost_ret (v := .tuple #[.agg #[.string ⟨#[]⟩, .string ⟨#[]⟩, .int .i64 0, .slice none 0 0], .int .i64 5]) (by simp [results, Tryd.results17, go_sem, z0, z1, z2, z3]) rfl ?_
      exact ⟨_, by rw [unhide HO5], by rw [unhide HO5]; exact (unhide HE).2.1, (unhide HE).2.2⟩
    · subst hq1
      subst hq3
      have HO0 : Hid (mdOut (.mk k v a ks) key = (brOf (dropT (kh key) t), 0)) := hide (by
        rw [unhide HO]
        unfold mdO
        dsimp only
        rw [if_pos hq2])
      have x2 := hq4.cell 2 rfl
      obtain ⟨p, rfl, hn⟩ := unhide P3
      have HW := hide (without_any (kh key) (kh_size (by omega)) t 0 w3 _ p hn (unhide HRO))
      have HDO := hide (dropT_ok (kh key) t (unhide HOK))
      clear hq2 hq4 hn P3 HO
      generalize dropT (kh key) t = D at *
      generalize kh key = h at *
      go_wp2_with fail
      refine (unhide HW).mono ?_
      rintro e w4 ⟨pv4, rfl, hp4, hT4⟩
      have B4 := hide ((unhide B3).trans (hT4.below (B := w.heap.size) (unhide B3).size (fun b hb e => by have := (unhide S1).2.1; omega)))
      have R4 := hide ((unhide R3).kept hT4 (fun e => by have := (unhide S1).1; omega))
      have HBC : Hid (Calls Tryd.prog 33 #[.pointer pv4] w4 fun e w' => BranchR (brOf D) w4 e w') := hide (by
        cases D with
        | none =>
          obtain rfl : pv4 = none := hp4
          exact branch_nil w4
        | some t' =>
          obtain ⟨q', rfl, hn'⟩ := hp4
          exact branch_any hn' (unhide HDO) w4 (Below.refl _ _))
      clear hp4 hT4 HW B3 R3 x2
      go_wp2_with fail
      refine (unhide HBC).mono ?_
      rintro e w5 ⟨sa5, n5, c5, rfl, hO5, hb5⟩
      have R5 := hide ((unhide R4).below hb5)
      have B5 := hide ((unhide B4).trans (hb5.mono (unhide B4).size))
      have hE := end4b (unhide R5) (unhide B5) hO5 (unhide HSZ) (unhide R4).1
      clear hb5 hO5 HBC B4
      have r0 := (unhide R5).cell 0 rfl
      have r1 := (unhide R5).cell 1 rfl
      have r2 := (unhide R5).cell 2 rfl
      have r3 := (unhide R5).cell 3 rfl
      have f0 := (unhide R5).fro 0
      have f1 := (unhide R5).fro 1
      have f2 := (unhide R5).fro 2
      have f3 := (unhide R5).fro 3
      have z0 := hE.1.cell 0 rfl
      have z1 := hE.1.cell 1 rfl
      have z2 := hE.1.cell 2 rfl
      have z3 := hE.1.cell 3 rfl
      have HE := hide hE
      unfold set4 at z0 z1 z2 z3
      clear hE
      go_wp2_with fail
      refine bodyPost_ret (v := .tuple #[.agg #[.string (brOf D).key, .string (brOf D).val, .int .i64 (brOf D).at_, .slice sa5 n5 c5], .int .i64 0]) (by simp [results, Tryd.results17, go_sem, z0, z1, z2, z3]) rfl ?_
      exact ⟨_, by rw [unhide HO0], by rw [unhide HO0]; exact (unhide HE).2.1, (unhide HE).2.2⟩
end Go.Proofs.YtkcpdjeemdlgcaaDoor.Sha
namespace Go.Proofs.YtkcpdjeemdlgcaaDoor.Sha
open Go.ChangeShapes Go.WideShapes Go.ChangeAt Go.RowKit Go.Shelf
set_option linter.unusedVariables false
set_option linter.unusedSimpArgs false
attribute [local go_sem] Oper.semAt_some

/-- A leaf in memory, as it lies in the world w0 below n₀. -/
abbrev LfA (w0 : World) (n₀ : Nat) := { x : Nat × ByteArray × ByteArray // x.1 < n₀ ∧ w0.cell? ⟨x.1, 0, none⟩ = some (.string x.2.1) ∧ w0.cell? ⟨x.1, 1, none⟩ = some (.string x.2.2) ∧ x.2.1.size ≤ 24 ∧ x.2.2.size ≤ 60 }
inductive LT (w0 : World) (n₀ : Nat) where
  | leaf (x : LfA w0 n₀)
  | fork (a : Nat) (l r : LT w0 n₀)
def LT.list {w0 : World} {n₀ : Nat} : LT w0 n₀ → List (LfA w0 n₀)
  | .leaf x => [x]
  | .fork _ l r => l.list ++ r.list
def IsLT {w0 : World} {n₀ : Nat} (W : World) : Nat → LT w0 n₀ → Prop
  | p, .leaf x => p = x.1.1 ∧ W.cell? ⟨p, 3, none⟩ = some (.int .i64 256)
  | p, .fork a l r => p < n₀ ∧ a < 256 ∧ W.cell? ⟨p, 3, none⟩ = some (.int .i64 a) ∧ ∃ pl pr, W.cell? ⟨p, 4, none⟩ = some (.pointer (some ⟨pl, 0, none⟩)) ∧ W.cell? ⟨p, 5, none⟩ = some (.pointer (some ⟨pr, 0, none⟩)) ∧ IsLT W pl l ∧ IsLT W pr r
theorem IsLT.below {w0 A B : World} {n₀ : Nat} (h : Below n₀ A B) : ∀ {T : LT w0 n₀} {p : Nat}, IsLT A p T → IsLT B p T
  | .leaf x, p, ⟨h1, h2⟩ => ⟨h1, (h.cell (p := ⟨p, 3, none⟩) (by rw [h1]; exact x.2.1)).trans h2⟩
  | .fork a l r, p, ⟨h0, h1, h2, pl, pr, h3, h4, h5, h6⟩ => ⟨h0, h1, (h.cell (p := ⟨p, 3, none⟩) h0).trans h2, pl, pr, (h.cell (p := ⟨p, 4, none⟩) h0).trans h3, (h.cell (p := ⟨p, 5, none⟩) h0).trans h4, h5.below h, h6.below h⟩
theorem wide_room (k : Nat) : Fence.wide.room k := fun d h => by cases h
theorem yield_wide {m : Nat} (m' : Nat) {P : Program} {l : Nat} {args : Array Value} {W : World} {R : Ending → World → Prop} (h : YieldAt Fence.wide m P l args W R) : YieldAt Fence.wide m' P l args W R := by
  obtain ⟨fn, tmps, asg, bd, hy, hR⟩ := h
  exact ⟨fn, tmps, asg, bd, hy, hR.1, fun c cs _ => hR.2 c cs (wide_room _)⟩
/-- The leaves of a map, in their order. -/
def Tr.lvs : Tr → List (ByteArray × ByteArray)
  | .leaf k v => [(k, v)]
  | .fork _ _ l r => l.lvs ++ r.lvs
theorem lt_of_nd {w : World} {S : Nat → Prop} {p : Nat} {t : Tr} (h : Nd w S p t) : TrOK t → ∃ T : LT w w.heap.size, IsLT w p T ∧ T.list.map (fun x => x.1.2) = t.lvs := by
  induction h with
  | leaf S p k v h0 h1 => intro ho; exact ⟨.leaf ⟨(p, k, v), h1.1, h1.cell 0 rfl, h1.cell 1 rfl, (okK_iff.1 ho.1).2, ho.2⟩, ⟨rfl, h1.cell 3 rfl⟩, rfl⟩
  | fork S Sl Sr p a h l r pl pr h0 h1 h2 h3 h4 h5 h6 i1 i2 =>
    intro ho
    obtain ⟨T1, a1, b1⟩ := i1 ho.2.2.1
    obtain ⟨T2, a2, b2⟩ := i2 ho.2.2.2
    exact ⟨.fork a T1 T2, ⟨h4.1, ho.1, h4.cell 3 rfl, pl, pr, h4.cell 4 rfl, h4.cell 5 rfl, a1, a2⟩, by simp only [LT.list, List.map_append, b1, b2]; rfl⟩
set_option maxRecDepth 100000 in
set_option maxHeartbeats 2000000 in
theorem visit_in {w0 : World} {n₀ : Nat} (l N : Nat) (J Jx : List (LfA w0 n₀) → World → Prop)
    (hY : ∀ m pre x W, J pre W → pre.length < N → YieldAt Fence.wide m Tryd.prog l #[.pointer (some ⟨x.1.1, 0, none⟩)] W fun e W' =>
      (e = .returned (.bool true) ∧ J (pre ++ [x]) W' ∧ Below n₀ W W') ∨ (e = .returned (.bool false) ∧ Jx (pre ++ [x]) W')) (T : LT w0 n₀) :
    ∀ (n : Nat) (p : Nat) (pre : List (LfA w0 n₀)) (W : World), IsLT W p T → J pre W → pre.length + T.list.length ≤ N →
      CallsIn Fence.wide n Tryd.prog 78 #[.pointer (some ⟨p, 0, none⟩), .func (.yield l) #[] #[]] W fun e W' =>
        (e = .returned (.bool true) ∧ J (pre ++ T.list) W' ∧ Below n₀ W W') ∨ (e = .returned (.bool false) ∧ ∃ q, q <+: T.list ∧ Jx (pre ++ q) W') := by
  induction T with
  | leaf x =>
    intro n p pre W ht hJ hN
    obtain ⟨rfl, c3⟩ := ht
    obtain ⟨fn, tmps, asg, bd, hy, hR⟩ := hY (n - 1) pre x W hJ (by simp [LT.list] at hN; omega)
    refine callsIn_of_wp Tryd.func78 rfl trivial ?_ rfl
    simp only [Tryd.ntmps78, List.size_toArray, List.length_cons, List.length_nil, Nat.reduceAdd, Nat.reduceSub, Array.replicate_succ, Array.replicate_zero, List.push_toArray, List.append_toArray, List.nil_append, List.cons_append]
    gi_wp2
    refine ⟨fun h => (by cases h), ?_⟩
    refine hR.mono ?_
    rintro e W2 (⟨rfl, hJ2, hb2⟩ | ⟨rfl, hx2⟩)
    · gi_wp2
      go_ret
      exact .inl ⟨rfl, hJ2, hb2⟩
    · gi_wp2
      go_ret
      exact .inr ⟨rfl, [x], List.prefix_refl _, hx2⟩
  | fork a tl tr ihl ihr =>
    intro n p pre W ht hJ hN
    obtain ⟨h0, ha, c3, pl, pr, c4, c5, hl, hr⟩ := ht
    simp only [LT.list, List.length_append] at hN
    have hdd : ∀ k : Nat, (Fence.wide.depth.isSome = true → 1 ≤ k) := fun k h => by cases h
    have hab : ((a : Int) == 256) = false := by rw [beq_eq_false_iff_ne]; omega
    have ih1 := (ihl (n - 1) pl pre W hl hJ (by omega)).mono (R' := fun e W1 =>
        (e = .returned (.bool true) ∧ W1.cell? ⟨p, 5, none⟩ = some (.pointer (some ⟨pr, 0, none⟩)) ∧ J (pre ++ tl.list) W1 ∧ Below n₀ W W1 ∧ IsLT W1 pr tr) ∨
        (e = .returned (.bool false) ∧ ∃ q, q <+: tl.list ∧ Jx (pre ++ q) W1))
      (fun e W1 h => h.elim (fun ⟨he, hj, hb1⟩ => .inl ⟨he, (hb1.cell (p := ⟨p, 5, none⟩) h0).trans c5, hj, hb1, hr.below hb1⟩) .inr)
    clear ihl
    refine callsIn_of_wp Tryd.func78 rfl trivial ?_ rfl
    simp only [Tryd.ntmps78, List.size_toArray, List.length_cons, List.length_nil, Nat.reduceAdd, Nat.reduceSub, Array.replicate_succ, Array.replicate_zero, List.push_toArray, List.append_toArray, List.nil_append, List.cons_append]
    gi_wp2_with (first
      | (refine ⟨trivial, ?_⟩; (try refine ⟨hdd _, ?_⟩); gi_at_call 78; refine ih1.mono ?_; clear ih1; rintro e W1 (⟨rfl, c5', hJ1, hb1, hr1⟩ | ⟨rfl, q, hq, hx1⟩))
      | (refine ⟨trivial, ?_⟩; (try refine ⟨hdd _, ?_⟩); gi_at_call 78; refine (ihr (n - 1) pr _ _ hr1 hJ1 (by simp; omega)).mono ?_; rintro e W3 (⟨rfl, hJ3, hb3⟩ | ⟨rfl, q, hq, hx3⟩)))
    · go_ret
      exact .inl ⟨rfl, by simpa [LT.list, List.append_assoc] using hJ3, hb1.trans hb3⟩
    · go_ret
      obtain ⟨r, hr'⟩ := hq
      exact .inr ⟨rfl, tl.list ++ q, ⟨r, by simp [LT.list, ← hr']⟩, by simpa [List.append_assoc] using hx3⟩
    · refine ⟨trivial, ?_⟩
      gi_wp2
      go_ret
      exact .inr ⟨rfl, q, hq.trans (by simp [LT.list]), hx1⟩
set_option maxHeartbeats 1000000 in
theorem visit_nil (l n : Nat) (W : World) :
    CallsIn Fence.wide n Tryd.prog 78 #[.pointer none, .func (.yield l) #[] #[]] W fun e W' => e = .returned (.bool true) ∧ W' = W := by
  refine callsIn_of_wp Tryd.func78 rfl trivial ?_ rfl
  simp only [Tryd.ntmps78, List.size_toArray, List.length_cons, List.length_nil, Nat.reduceAdd, Nat.reduceSub, Array.replicate_succ, Array.replicate_zero, List.push_toArray, List.append_toArray, List.nil_append, List.cons_append]
  gi_wp2
  go_ret
  exact ⟨rfl, rfl⟩
/-- A pointer to a map's nodes, or nil; the leaves. -/
def IsLO {w0 : World} {n₀ : Nat} (W : World) : Option Addr → Option (LT w0 n₀) → Prop
  | pv, none => pv = none
  | pv, some T => ∃ p, pv = some ⟨p, 0, none⟩ ∧ IsLT W p T
def LO.list {w0 : World} {n₀ : Nat} : Option (LT w0 n₀) → List (LfA w0 n₀)
  | none => []
  | some T => T.list
theorem IsLO.below {w0 A B : World} {n₀ : Nat} (h : Below n₀ A B) {o : Option (LT w0 n₀)} {pv : Option Addr} (hl : IsLO A pv o) : IsLO B pv o := by
  cases o with
  | none => exact hl
  | some T => obtain ⟨p, h1, h2⟩ := hl; exact ⟨p, h1, h2.below h⟩
set_option maxHeartbeats 1000000 in
theorem leaves1_in {w0 : World} {n₀ : Nat} (n l Bt : Nat) (pv : Option Addr) (o : Option (LT w0 n₀)) (J Jx : List (LfA w0 n₀) → World → Prop)
    (hY : ∀ pre x W, J pre W → pre.length < (LO.list o).length → YieldAt Fence.wide (n - 1) Tryd.prog l #[.pointer (some ⟨x.1.1, 0, none⟩)] W fun e W' =>
      (e = .returned (.bool true) ∧ J (pre ++ [x]) W' ∧ Below n₀ W W') ∨ (e = .returned (.bool false) ∧ Jx (pre ++ [x]) W'))
    (W : World) (hBt : W.cell? ⟨Bt, 0, none⟩ = some (.pointer pv)) (hT : IsLO W pv o) (h0 : J [] W) :
    CallsIn Fence.wide n Tryd.prog 77 #[.func (.yield l) #[] #[], .pointer (some ⟨Bt, 0, none⟩)] W fun e W' => (∃ v, e = .returned v) ∧
      ((∃ ys, ys = LO.list o ∧ J ys W') ∨ (∃ pre, pre <+: LO.list o ∧ Jx pre W')) := by
  have hdd : ∀ k : Nat, (Fence.wide.depth.isSome = true → 1 ≤ k) := fun k h => by cases h
  cases o with
  | none =>
    obtain rfl : pv = none := hT
    have hp := visit_nil l (n - 1) W
    refine callsIn_of_wp Tryd.func77 rfl trivial ?_ rfl
    simp only [Tryd.ntmps77, List.size_toArray, List.length_cons, List.length_nil, Nat.reduceAdd, Nat.reduceSub, Array.replicate_succ, Array.replicate_zero, List.push_toArray, List.append_toArray, List.nil_append, List.cons_append]
    gi_wp2_with (refine ⟨trivial, ?_⟩; (try refine ⟨hdd _, ?_⟩); gi_at_call 78; refine hp.mono ?_; clear hp; rintro e W1 ⟨rfl, rfl⟩)
    go_end0
    exact ⟨⟨_, rfl⟩, .inl ⟨_, rfl, h0⟩⟩
  | some T =>
    obtain ⟨p, rfl, hT'⟩ := hT
    have hp := visit_in l T.list.length J Jx (fun m pre x W hj hl => yield_wide m (hY pre x W hj hl)) T (n - 1) p [] W hT' h0 (by simp)
    refine callsIn_of_wp Tryd.func77 rfl trivial ?_ rfl
    simp only [Tryd.ntmps77, List.size_toArray, List.length_cons, List.length_nil, Nat.reduceAdd, Nat.reduceSub, Array.replicate_succ, Array.replicate_zero, List.push_toArray, List.append_toArray, List.nil_append, List.cons_append]
    gi_wp2_with (refine ⟨trivial, ?_⟩; (try refine ⟨hdd _, ?_⟩); gi_at_call 78; refine hp.mono ?_; clear hp; rintro e W1 (⟨rfl, hJ1, _⟩ | ⟨rfl, q, hq, hx⟩))
    · go_end0
      exact ⟨⟨_, rfl⟩, .inl ⟨_, rfl, by simpa [LO.list] using hJ1⟩⟩
    · go_end0
      exact ⟨⟨_, rfl⟩, .inr ⟨q, hq, by simpa using hx⟩⟩
set_option maxHeartbeats 1000000 in
theorem leaves_in (n : Nat) (pv : Option Addr) (w : World) :
    CallsIn Fence.wide n Tryd.prog 38 #[.pointer pv] w fun e w' => e = .returned (.func (.func 77) #[] #[.pointer (some ⟨w.heap.size, 0, none⟩)]) ∧ w' = w.alloc (.cells #[.pointer pv] 54) := by
  refine callsIn_of_wp Tryd.func38 rfl trivial ?_ rfl
  simp only [Tryd.ntmps38, List.size_toArray, List.length_cons, List.length_nil, Nat.reduceAdd, Nat.reduceSub, Array.replicate_succ, Array.replicate_zero, List.push_toArray, List.append_toArray, List.nil_append, List.cons_append]
  gi_wp2
  go_ret
  exact ⟨rfl, rfl⟩
theorem leaves_stops {w0 : World} {n₀ : Nat} (n Bt : Nat) (pv : Option Addr) (o : Option (LT w0 n₀)) (w : World) (hBt : Bt < w.heap.size) (hn₀ : n₀ ≤ w.heap.size)
    (hc : w.cell? ⟨Bt, 0, none⟩ = some (.pointer pv)) (hT : IsLO w pv o) :
    SeqStopsK Fence.wide n Tryd.prog 77 #[.pointer (some ⟨Bt, 0, none⟩)] (fun x : LfA w0 n₀ => #[Value.pointer (some ⟨x.1.1, 0, none⟩)]) (Below n₀) (fun ys => ys = LO.list o) (fun pre => pre <+: LO.list o) (LO.list o).length w := fun l J Jx W hW _ _ hY h0 =>
  leaves1_in n l Bt pv o J Jx hY W ((hW.cell (p := ⟨Bt, 0, none⟩) hBt).trans hc) (hT.below (hW.mono hn₀)) h0
theorem box_cell (W : World) (v : Value) (t : TypeId) : (W.alloc (.cells #[v] t)).cell? ⟨W.heap.size, 0, none⟩ = some v ∧ (W.alloc (.cells #[v] t)).frozen? ⟨W.heap.size, 0, none⟩ = false :=
  have h := Blk.new W #[v] t W.heap.size rfl
  ⟨h.cell 0 rfl, h.fro 0⟩
theorem alloc_cell {W : World} {a : Addr} {v : Value} (o : Obj) (h : W.cell? a = some v) (hf : W.frozen? a = false) : (W.alloc o).cell? a = some v ∧ (W.alloc o).frozen? a = false :=
  ⟨cell_kept h (World.grownBy_alloc W o none) (fun r e => by cases e), (frozen_kept h (World.grownBy_alloc W o none) (fun r e => by cases e)).trans hf⟩
set_option maxRecDepth 100000 in
set_option maxHeartbeats 2000000 in
theorem size_in (n : Nat) (hn : 3 ≤ n) (pv : Option Addr) (w : World) (o : Option (LT w w.heap.size)) (hL : IsLO w pv o) (h40 : (LO.list o).length ≤ 1000) :
    CallsIn Fence.wide n Tryd.prog 30 #[.pointer pv] w fun e W' => e = .returned (.int .i64 (LO.list o).length) ∧ Below w.heap.size w W' := by
  have h1 : 1 ≤ n := by omega
  have hdd : ∀ k : Nat, (Fence.wide.depth.isSome = true → 1 ≤ k) := fun k h => by cases h
  refine callsIn_of_wp_marks Tryd.func30 rfl trivial ?_ rfl
  simp only [Tryd.ntmps30, List.size_toArray, List.length_cons, List.length_nil, Nat.reduceAdd, Nat.reduceSub, Array.replicate_succ, Array.replicate_zero, List.push_toArray, List.append_toArray, List.nil_append, List.cons_append]
  gi_wp2_with (refine ⟨trivial, ?_⟩; (try refine ⟨hdd _, ?_⟩); gi_at_call 38; refine (leaves_in (n - 1) _ _).mono ?_; rintro e w' ⟨rfl, rfl⟩)
  have hs := box_cell w (.int .i64 0) 3
  have hs2 := alloc_cell (.cells #[.pointer pv] 54) hs.1 hs.2
  have hb := box_cell (w.alloc (.cells #[.int .i64 0] 3)) (.pointer pv) 54
  rw [World.size_alloc] at hb
  have hB0 : Below w.heap.size w ((w.alloc (.cells #[.int .i64 0] 3)).alloc (.cells #[.pointer pv] 54)) := ((Below.refl _ w).alloc (Nat.le_refl _) _).alloc (by simp) _
  refine wpIn_rangeFunc_ownF rfl h1 (gf := 77) (lb := #[.pointer (some ⟨w.heap.size + 1, 0, none⟩)]) rfl trivial (enters_of Tryd.func77 (by kernel_rfl) rfl)
    (leaves_stops (n - 1) (w.heap.size + 1) pv o _ (by simp) (by simp; omega) hb.1 (hL.below hB0)) belowK_t (belowK_b (by simp; omega)) (Below.refl _ _) (fun _ => rfl)
    (fun pre W => (W.cell? ⟨w.heap.size, 0, none⟩ = some (.int .i64 pre.length) ∧ W.frozen? ⟨w.heap.size, 0, none⟩ = false) ∧ Below w.heap.size w W)
    (fun _ _ _ => False)
    (OwnFrom.and (Own.from (fun s A B row hs hg hr => ⟨cell_kept hs.1 hg hr, (frozen_kept hs.1 hg hr).trans hs.2⟩) _) (ownFrom_below (Nat.le_refl _) (by simp; omega)))
    (fun _ _ _ _ _ hs _ _ => hs)
    ⟨hs2, hB0⟩
    (fun x => { tmps := #[.pointer pv, undef, .int .i64 0, .pointer (some ⟨w.heap.size, 0, none⟩), .pointer pv, .func (.func 77) #[] #[.pointer (some ⟨w.heap.size + 1, 0, none⟩)], .pointer (some ⟨x.1.1, 0, none⟩), undef, undef, undef], defers := [] }) ?assign ?body ?done ?stop
  case assign =>
    intro l x W K hK
    gi_wp2
    first | exact hK | simpa using hK | simpa [Array.zip] using hK | (rw [List.zip_toArray]; simpa using hK)
  case body =>
    rintro l pre x W ⟨⟨hc, hf⟩, hB⟩ hlen
    have hle : pre.length + 1 ≤ 1000 := by omega
    have hw : wrap64 ((pre.length : Int) + 1) = ((pre ++ [x]).length : Int) := by unfold wrap64; simp; omega
    gi_wp2
    exact ⟨KeepsOthers.setCell _ _ _, (Below.refl w.heap.size W).setCell (p := ⟨w.heap.size, 0, none⟩) (Nat.le_refl _) _, ⟨by first | (rw [← hw]; exact World.cell?_setCell_same' _ _ _ (by rw [hc]; rfl)) | (rw [show ((pre ++ [x]).length : Int) = (pre.length : Int) + 1 by simp]; exact World.cell?_setCell_same' _ _ _ (by rw [hc]; rfl)), by rw [World.frozen?_setCell]; exact hf⟩, hB.setCell (p := ⟨w.heap.size, 0, none⟩) (Nat.le_refl _) _⟩
  case done =>
    rintro D ys W hD rfl ⟨⟨hc, _⟩, hB⟩ hK
    gi_wp2
    refine ⟨by simp, .inl ⟨_, _, rfl, run_takeDeferred hK, ?_⟩⟩
    exact ⟨_, results_tmp rfl _ _ _, rfl, hB.trans (belowK_b (w := w) (Nat.le_refl _) W D _ _ (by simp at hD; omega) hK rfl rfl)⟩
  case stop =>
    rintro D c pre W _ _ h _
    exact h.elim
theorem size_any {w : World} {S : Nat → Prop} {p : Nat} {t : Tr} (h : Nd w S p t) (ho : TrOK t) (h40 : t.lvs.length ≤ 1000) :
    Calls Tryd.prog 30 #[.pointer (some ⟨p, 0, none⟩)] w fun e w' => e = .returned (.int .i64 t.lvs.length) ∧ Below w.heap.size w w' := by
  obtain ⟨T, h1, h2⟩ := lt_of_nd h ho
  have hl : (LO.list (some T)).length = t.lvs.length := by rw [← h2]; simp [LO.list]
  have := callsIn_wide.1 (size_in 3 (Nat.le_refl _) _ w (some T) ⟨p, rfl, h1⟩ (by omega))
  rw [hl] at this
  exact this
end Go.Proofs.YtkcpdjeemdlgcaaDoor.Sha
namespace Go.Proofs.YtkcpdjeemdlgcaaDoor.Sha
open Go.ChangeShapes Go.WideShapes Go.ChangeAt Go.RowKit
set_option linter.unusedVariables false
set_option linter.unusedSimpArgs false

theorem with_end0 {w w1 w2 : World} {S Sl Sr : Nat → Prop} {p q a pr p' : Nat} {hv : ByteArray} {l' r : Tr} (hw : Below w.heap.size w w1) (hsz : w1.heap.size = w.heap.size) (hp : S p) (h1 : ∀ b, Sl b → S b ∧ b ≠ p) (h2 : ∀ b, Sr b → S b ∧ b ≠ p) (h3 : ∀ b, Sl b → ¬ Sr b) (hS : ∀ b, S b → b < w.heap.size) (hqS : ¬ S q)
    {pl : Nat} (X : Blk w1 p (fkC hv a pl pr)) (hr : Nd w1 Sr pr r) (hn : Nd w2 (fun b => Sl b ∨ b = q ∨ (w1.heap.size ≤ b ∧ b < w2.heap.size)) p' l') (hT : Touch Sl w1 w2) :
    WithR S q (.fork a hv l' r) w (.returned (.pointer (some ⟨p, 0, none⟩))) (w2.setCell ⟨p, 4, none⟩ (.pointer (some ⟨p', 0, none⟩))) := by
  have X2 := X.kept hT (fun e => (h1 p e).2 rfl)
  have XS := X2.set 4 (.pointer (some ⟨p', 0, none⟩)) (by simp [fkC])
  have tp := (Touch.refl (fun b => b = p) w2).setCell ⟨p, 4, none⟩ (.pointer (some ⟨p', 0, none⟩)) (fun _ => rfl)
  have hts := tp.size
  have hps := hS p hp
  have NK := hn.touch tp (fun b hb e => by
    rcases hb with hb | hb | hb
    · exact (h1 b hb).2 e
    · exact hqS (by rw [← hb, e]; exact hp)
    · omega)
  have NO := (hr.touch hT (fun b hb e => h3 b e hb)).touch tp (fun b hb e => (h2 b hb).2 e)
  refine ⟨p, rfl, .fork _ (fun b => Sl b ∨ b = q ∨ (w1.heap.size ≤ b ∧ b < w2.heap.size)) Sr p a hv l' r p' pr (.inl hp) (fun b hb => ?_) (fun b hb => ⟨.inl (h2 b hb).1, (h2 b hb).2⟩) (fun b hb hr' => ?_) XS NK NO, ?_⟩
  · rcases hb with hb | hb | hb
    · exact ⟨.inl (h1 b hb).1, (h1 b hb).2⟩
    · exact ⟨.inr (.inl hb), fun e => hqS (by rw [← hb, e]; exact hp)⟩
    · exact ⟨.inr (.inr ⟨by omega, by omega⟩), by omega⟩
  · rcases hb with hb | hb | hb
    · exact h3 b hb hr'
    · exact hqS (by rw [← hb]; exact (h2 b hr').1)
    · have := hS b (h2 b hr').1
      omega
  · exact ((Touch.ofBelow (T := S) hw).trans hT (fun b _ e => (h1 b e).1)).trans tp (fun b _ e => by rw [e]; exact hp)
theorem with_end1 {w w1 w2 : World} {S Sl Sr : Nat → Prop} {p q a pl p' : Nat} {hv : ByteArray} {l r' : Tr} (hw : Below w.heap.size w w1) (hsz : w1.heap.size = w.heap.size) (hp : S p) (h1 : ∀ b, Sl b → S b ∧ b ≠ p) (h2 : ∀ b, Sr b → S b ∧ b ≠ p) (h3 : ∀ b, Sl b → ¬ Sr b) (hS : ∀ b, S b → b < w.heap.size) (hqS : ¬ S q)
    {pr : Nat} (X : Blk w1 p (fkC hv a pl pr)) (hl : Nd w1 Sl pl l) (hn : Nd w2 (fun b => Sr b ∨ b = q ∨ (w1.heap.size ≤ b ∧ b < w2.heap.size)) p' r') (hT : Touch Sr w1 w2) :
    WithR S q (.fork a hv l r') w (.returned (.pointer (some ⟨p, 0, none⟩))) (w2.setCell ⟨p, 5, none⟩ (.pointer (some ⟨p', 0, none⟩))) := by
  have X2 := X.kept hT (fun e => (h2 p e).2 rfl)
  have XS := X2.set 5 (.pointer (some ⟨p', 0, none⟩)) (by simp [fkC])
  have tp := (Touch.refl (fun b => b = p) w2).setCell ⟨p, 5, none⟩ (.pointer (some ⟨p', 0, none⟩)) (fun _ => rfl)
  have hts := tp.size
  have hps := hS p hp
  have NK := hn.touch tp (fun b hb e => by
    rcases hb with hb | hb | hb
    · exact (h2 b hb).2 e
    · exact hqS (by rw [← hb, e]; exact hp)
    · omega)
  have NO := (hl.touch hT (fun b hb e => h3 b hb e)).touch tp (fun b hb e => (h1 b hb).2 e)
  refine ⟨p, rfl, .fork _ Sl (fun b => Sr b ∨ b = q ∨ (w1.heap.size ≤ b ∧ b < w2.heap.size)) p a hv l r' pl p' (.inl hp) (fun b hb => ⟨.inl (h1 b hb).1, (h1 b hb).2⟩) (fun b hb => ?_) (fun b hl' hb => ?_) XS NO NK, ?_⟩
  · rcases hb with hb | hb | hb
    · exact ⟨.inl (h2 b hb).1, (h2 b hb).2⟩
    · exact ⟨.inr (.inl hb), fun e => hqS (by rw [← hb, e]; exact hp)⟩
    · exact ⟨.inr (.inr ⟨by omega, by omega⟩), by omega⟩
  · rcases hb with hb | hb | hb
    · exact h3 b hl' hb
    · exact hqS (by rw [← hb]; exact (h1 b hl').1)
    · have := hS b (h1 b hl').1
      omega
  · exact ((Touch.ofBelow (T := S) hw).trans hT (fun b _ e => (h2 b e).1)).trans tp (fun b _ e => by rw [e]; exact hp)
set_option maxRecDepth 100000 in
set_option maxHeartbeats 4000000 in
theorem with_any (k v : ByteArray) (at_ : Nat) (hat : at_ ≤ 256) (hk : k.size ≤ 65536) : ∀ (t : Tr) (m : Nat) (w : World) (S : Nat → Prop) (p q : Nat), Nd w S p t → Rise m t → Sep t → TrOK t → (∀ b, S b → b < w.heap.size) → Blk w q (lfC k v) → ¬ S q → at_ = fd (kh (leadL (kh k) t).1) (kh k) →
    Calls Tryd.prog 67 #[.pointer (some ⟨p, 0, none⟩), .pointer (some ⟨q, 0, none⟩), .int .i64 at_] w fun e w' => WithR S q (putT (kh k) at_ k v t) w e w' := by
  intro t
  induction t with
  | leaf k' v' =>
    intro m w S p q hn hr hs ho hS hq hqS hfd
    have HNF := hide (fun (ha : at_ < 256) => newFork_nd (a := at_) hn (hash_of_ok ho) hS hq hqS hk ha (by
      have h1 := ((fd_iff (kh (leadL (kh k) (.leaf k' v')).1) (kh k) at_ ha).1 hfd.symm).2
      exact fun e => h1 e.symm))
    cases hn with
    | leaf S p k' v' h0 h1 =>
      have x3 := h1.cell 3 rfl
      by_cases h256 : at_ = 256
      · have HG : Hid (WithR S q (putT (kh k) at_ k v (.leaf k' v')) w (.returned (.pointer (some ⟨q, 0, none⟩))) w) := hide (by
          unfold putT
          rw [if_pos h256]
          exact ⟨q, rfl, .leaf _ q k v (.inr (.inl rfl)) hq, Touch.refl _ _⟩)
        subst h256
        clear h1 hr hs ho hq hfd HNF
        go_enter Tryd.func67, Tryd.ntmps67
        go_wp2_with fail
        go_ret
        exact unhide HG
      · have HF := hide (unhide HNF (by omega))
        have HP : Hid (putT (kh k) at_ k v (.leaf k' v') = forkT at_ (kh k) k v (.leaf k' v')) := hide (by conv => lhs; unfold putT; rw [if_neg h256])
        have hb1 : ¬ (256 : Int) < (at_ : Int) := by omega
        have hb2 : ((at_ : Int) == 256) = false := by rw [beq_eq_false_iff_ne]; omega
        clear h1 hr hs ho hq hfd HNF
        generalize forkT at_ (kh k) k v (.leaf k' v') = R at *
        go_enter Tryd.func67, Tryd.ntmps67
        go_wp2_with fail
        refine (unhide HF).mono ?_
        rintro e w2 ⟨p2, rfl, h2⟩
        have HG : Hid (WithR S q (putT (kh k) at_ k v (.leaf k' v')) w (.returned (.pointer (some ⟨p2, 0, none⟩))) w2) := hide (by rw [unhide HP]; exact ⟨p2, rfl, h2⟩)
        clear h2
        go_wp2_with fail
        go_ret
        exact unhide HG
  | fork a hv l r ihl ihr =>
    intro m w S p q hn hr hs ho hS hq hqS hfd
    have hbit := lead_bit (kh k) hr hs
    have HNF := hide (fun (ha : at_ < a) => newFork_nd (a := at_) hn (hash_of_ok ho) hS hq hqS hk (by have := hr.2.1; omega) (by
      have h1 := ((fd_iff (kh (leadL (kh k) (.fork a hv l r)).1) (kh k) at_ (by have := hr.2.1; omega)).1 hfd.symm).2
      have h2 := lead_alike (kh k) (.fork a hv l r) m hr hs at_ ha
      exact fun e => h1 (h2.trans e.symm)))
    have hne : at_ ≠ a := fun e => by
      have h1 := ((fd_iff (kh (leadL (kh k) (.fork a hv l r)).1) (kh k) at_ (by have := hr.2.1; omega)).1 hfd.symm).2
      rw [e] at h1
      exact h1 hbit
    cases hn with
    | fork S Sl Sr p a hv l r pl pr h0 h1 h2 h3 h4 h5 h6 =>
      have x3 := h4.cell 3 rfl
      obtain ⟨r0, r1, r2, r3⟩ := hr
      by_cases hlt : a < at_
      · have X := hide h4
        have x4 := h4.cell 4 rfl
        have x5 := h4.cell 5 rfl
        have q2 := hq.cell 2 rfl
        have hlt' : (a : Int) < (at_ : Int) := by omega
        have HB := hide (fun wx => hashBit_any (kh k) a wx (kh_size hk) r1)
        have HS := hide (And.intro h0 (And.intro h1 (And.intro h2 (And.intro h3 (And.intro hS hqS)))))
        have HQ := hide hq
        have HN5 := hide h5
        have HN6 := hide h6
        obtain ⟨s0, s1, s2, s3, s4⟩ := hs
        obtain ⟨o0, o1, o2, o3⟩ := ho
        rcases bitN_01 (kh k) a with hb | hb
        · have HP : Hid (putT (kh k) at_ k v (.fork a hv l r) = .fork a hv (putT (kh k) at_ k v l) r) := hide (by conv => lhs; unfold putT; rw [if_pos hlt, if_pos hb])
          have hfl : at_ = fd (kh (leadL (kh k) l).1) (kh k) := by rw [hfd]; conv => lhs; unfold leadL; rw [if_pos hb]
          have HC : Hid (∀ wx, Below w.heap.size w wx → wx.heap.size = w.heap.size → Calls Tryd.prog 67 #[.pointer (some ⟨pl, 0, none⟩), .pointer (some ⟨q, 0, none⟩), .int .i64 at_] wx fun e w' => WithR Sl q (putT (kh k) at_ k v l) wx e w') := hide (fun wx hbx hsx => ihl _ wx Sl pl q ((unhide HN5).blw hbx) r2 s3 o2 (fun b hb => by rw [hsx]; exact hS b (h1 b hb).1) ((unhide HQ).below hbx) (fun e => hqS (h1 q e).1) hfl)
          rw [hb] at HB
          clear h1 h2 h3 h4 h5 h6 h0 hS hqS hq hbit HNF hne hfd hfl ihl ihr s0 s1 s2 s3 s4 o0 o1 o2 o3 r0 r2 r3
          generalize putT (kh k) at_ k v l = D at *
          generalize putT (kh k) at_ k v (.fork a hv l r) = R at *
          generalize kh k = hh at *
          go_enter Tryd.func67, Tryd.ntmps67
          go_wp2_with fail
          go_quiet ((go_at_call 48; exact Calls.quiet_of_same (unhide HB _)))
          have BD := hide (below_drewN (Below.refl w.heap.size w) nq)
          have X1 := (unhide X).below (unhide BD)
          have y4 := X1.cell 4 rfl
          have g4 := X1.fro 4
          have HX1 := hide X1
          have HE : Hid ((w.drewN nq).heap.size = w.heap.size) := rfl
          clear x3 x4 x5 q2 X1
          generalize w.drewN nq = w1 at *
          go_wp2_with fail
          go_region_law ((go_simp; go_at_call 67; refine (unhide HC _ (below_drewN (unhide BD) 1) (unhide HE)).mono ?_; rintro e w2 ⟨p2, rfl, hn2, hT2⟩; (have X2 := ((unhide HX1).drewN 1).kept hT2 (fun e => ((unhide HS).2.1 p e).2 rfl)); (have z4 := X2.cell 4 rfl); (have h4 := X2.fro 4); go_simp))
          all_goals
            have HG := hide (with_end0 (q := q) (below_drewN (unhide BD) 1) (unhide HE) (unhide HS).1 (unhide HS).2.1 (unhide HS).2.2.1 (unhide HS).2.2.2.1 (unhide HS).2.2.2.2.1 (unhide HS).2.2.2.2.2 ((unhide HX1).drewN 1) ((unhide HN6).blw (below_drewN (unhide BD) 1)) hn2 hT2)
            rw [← unhide HP] at HG
            clear hn2 hT2 X2 z4 h4
            go_wp2_with fail
            go_ret
            exact unhide HG
        · have HP : Hid (putT (kh k) at_ k v (.fork a hv l r) = .fork a hv l (putT (kh k) at_ k v r)) := hide (by conv => lhs; unfold putT; rw [if_pos hlt, if_neg (by omega)])
          have hfl : at_ = fd (kh (leadL (kh k) r).1) (kh k) := by rw [hfd]; conv => lhs; unfold leadL; rw [if_neg (by omega)]
          have HC : Hid (∀ wx, Below w.heap.size w wx → wx.heap.size = w.heap.size → Calls Tryd.prog 67 #[.pointer (some ⟨pr, 0, none⟩), .pointer (some ⟨q, 0, none⟩), .int .i64 at_] wx fun e w' => WithR Sr q (putT (kh k) at_ k v r) wx e w') := hide (fun wx hbx hsx => ihr _ wx Sr pr q ((unhide HN6).blw hbx) r3 s4 o3 (fun b hb => by rw [hsx]; exact hS b (h2 b hb).1) ((unhide HQ).below hbx) (fun e => hqS (h2 q e).1) hfl)
          rw [hb] at HB
          clear h1 h2 h3 h4 h5 h6 h0 hS hqS hq hbit HNF hne hfd hfl ihl ihr s0 s1 s2 s3 s4 o0 o1 o2 o3 r0 r2 r3
          generalize putT (kh k) at_ k v r = D at *
          generalize putT (kh k) at_ k v (.fork a hv l r) = R at *
          generalize kh k = hh at *
          go_enter Tryd.func67, Tryd.ntmps67
          go_wp2_with fail
          go_quiet ((go_at_call 48; exact Calls.quiet_of_same (unhide HB _)))
          have BD := hide (below_drewN (Below.refl w.heap.size w) nq)
          have X1 := (unhide X).below (unhide BD)
          have y5 := X1.cell 5 rfl
          have g5 := X1.fro 5
          have HX1 := hide X1
          have HE : Hid ((w.drewN nq).heap.size = w.heap.size) := rfl
          clear x3 x4 x5 q2 X1
          generalize w.drewN nq = w1 at *
          go_wp2_with fail
          go_region_law ((go_simp; go_at_call 67; refine (unhide HC _ (below_drewN (unhide BD) 1) (unhide HE)).mono ?_; rintro e w2 ⟨p2, rfl, hn2, hT2⟩; (have X2 := ((unhide HX1).drewN 1).kept hT2 (fun e => ((unhide HS).2.2.1 p e).2 rfl)); (have z4 := X2.cell 5 rfl); (have h4 := X2.fro 5); go_simp))
          all_goals
            have HG := hide (with_end1 (q := q) (below_drewN (unhide BD) 1) (unhide HE) (unhide HS).1 (unhide HS).2.1 (unhide HS).2.2.1 (unhide HS).2.2.2.1 (unhide HS).2.2.2.2.1 (unhide HS).2.2.2.2.2 ((unhide HX1).drewN 1) ((unhide HN5).blw (below_drewN (unhide BD) 1)) hn2 hT2)
            rw [← unhide HP] at HG
            clear hn2 hT2 X2 z4 h4
            go_wp2_with fail
            go_ret
            exact unhide HG
      · have HF := hide (unhide HNF (by omega))
        have HP : Hid (putT (kh k) at_ k v (.fork a hv l r) = forkT at_ (kh k) k v (.fork a hv l r)) := hide (by conv => lhs; unfold putT; rw [if_neg hlt])
        have hb1 : ¬ (a : Int) < (at_ : Int) := by omega
        have hb2 : ((at_ : Int) == 256) = false := by rw [beq_eq_false_iff_ne]; omega
        clear h1 h2 h3 h4 h5 h6 h0 hS hqS hq hbit HNF hne hfd ihl ihr hs ho r0 r2 r3
        generalize forkT at_ (kh k) k v (.fork a hv l r) = R at *
        go_enter Tryd.func67, Tryd.ntmps67
        go_wp2_with fail
        refine (unhide HF).mono ?_
        rintro e w2 ⟨p2, rfl, h2⟩
        have HG : Hid (WithR S q (putT (kh k) at_ k v (.fork a hv l r)) w (.returned (.pointer (some ⟨p2, 0, none⟩))) w2) := hide (by rw [unhide HP]; exact ⟨p2, rfl, h2⟩)
        clear h2
        go_wp2_with fail
        go_ret
        exact unhide HG
end Go.Proofs.YtkcpdjeemdlgcaaDoor.Sha
namespace Go.Proofs.YtkcpdjeemdlgcaaDoor.Sha
open Go.ChangeShapes Go.WideShapes Go.ChangeAt Go.RowKit
set_option linter.unusedVariables false
set_option linter.unusedSimpArgs false

theorem lvs_len : ∀ t : Tr, t.lvs.length = t.lvN
  | .leaf _ _ => rfl
  | .fork _ _ l r => by show (l.lvs ++ r.lvs).length = l.lvN + r.lvN; rw [List.length_append, lvs_len l, lvs_len r]
theorem fd_full {x y : ByteArray} (hx : x.size = 32) (hy : y.size = 32) (h : fd x y = 256) : x = y := by
  have hs : ∀ k, k ≤ 32 → ∀ j, j < k → byN x j = byN y j := by
    intro k
    induction k with
    | zero => intro _ j hj; omega
    | succ k ih =>
      intro hk j hj
      by_cases e : j = k
      · subst e
        by_cases hd : byN x j ^^^ byN y j = 0
        · exact Nat.eq_of_testBit_eq fun i => by
            have h1 := congrArg (fun n => n.testBit i) hd
            simp only [Nat.testBit_xor, Nat.zero_testBit] at h1
            generalize (byN x j).testBit i = b1 at *
            generalize (byN y j).testBit i = b2 at *
            cases b1 <;> cases b2 <;> simp_all
        · have h1 := fd_byte x y j (by omega) (ih (by omega)) hd
          have hlt : byN x j ^^^ byN y j < 256 := Nat.xor_lt_two_pow (n := 8) (byN_lt x j) (byN_lt y j)
          have h2 := (bl_bits ⟨byN x j ^^^ byN y j, hlt⟩ hd).1
          dsimp only at h2
          omega
      · exact ih (by omega) j (by omega)
  have hx2 : x.data.toList.length = 32 := by simpa using hx
  have hy2 : y.data.toList.length = 32 := by simpa using hy
  have : x.data.toList = y.data.toList := by
    apply List.ext_getElem?
    intro j
    by_cases hj : j < 32
    · have h1 := hs 32 (Nat.le_refl _) j hj
      unfold byN at h1
      have h2 := UInt8.toNat_inj.1 h1
      rw [List.getD_eq_getElem?_getD, List.getD_eq_getElem?_getD, List.getElem?_eq_getElem (by omega), List.getElem?_eq_getElem (by omega)] at h2
      rw [List.getElem?_eq_getElem (by omega), List.getElem?_eq_getElem (by omega)]
      simpa using h2
    · rw [List.getElem?_eq_none (by omega), List.getElem?_eq_none (by omega)]
  cases x; cases y
  simpa using congrArg List.toArray this
theorem fd_ne {x y : ByteArray} (hx : x.size = 32) (hy : y.size = 32) : fd x y < 256 ↔ x ≠ y := by
  have h := fd_le x y
  constructor
  · intro h1 e
    subst e
    have := fd_same x x (fun _ _ => rfl)
    omega
  · intro h1
    rcases Nat.lt_or_ge (fd x y) 256 with h2 | h2
    · exact h2
    · exact absurd (fd_full hx hy (by omega)) h1
def lvO : Option Tr → Nat
  | none => 0
  | some t => t.lvN
theorem sizeO_any {w : World} {S : Nat → Prop} {pv : Option Addr} {o : Option Tr} (hp : PtrM w S pv o) (hok : OkO o) (h40 : lvO o ≤ 1000) :
    Calls Tryd.prog 30 #[.pointer pv] w fun e w' => e = .returned (.int .i64 (lvO o)) ∧ Below w.heap.size w w' := by
  cases o with
  | none =>
    obtain rfl : pv = none := hp
    exact callsIn_wide.1 (size_in 3 (Nat.le_refl _) none w none rfl (by simp [LO.list]))
  | some t =>
    obtain ⟨p, rfl, hn⟩ := hp
    have := size_any hn hok (by rw [lvs_len]; exact h40)
    rw [lvs_len] at this
    exact this
/-- What a map is with a key's value put into it. -/
def putAt (t : Tr) (key : ByteArray) : Nat := fd (kh (leadL (kh key) t).1) (kh key)
def putO (o : Option Tr) (key val : ByteArray) : Tr := match o with
  | none => .leaf key val
  | some t => putT (kh key) (putAt t key) key val t
set_option maxRecDepth 100000 in
set_option maxHeartbeats 2000000 in
theorem put_any (key val : ByteArray) (hk : key.size ≤ 24) (w : World) (S : Nat → Prop) (pv : Option Addr) (q : Nat) (o : Option Tr) (hp : PtrM w S pv o) (hri : RiseO o) (hsp : SepO o) (hok : OkO o) (hS : ∀ b, S b → b < w.heap.size) (hq : Blk w q (lfC key val)) (hqS : ¬ S q) :
    Calls Tryd.prog 32 #[.pointer pv, .pointer (some ⟨q, 0, none⟩)] w fun e w' => WithR S q (putO o key val) w e w' := by
  cases o with
  | none =>
    obtain rfl : pv = none := hp
    have HR : Hid (WithR S q (putO none key val) w (.returned (.pointer (some ⟨q, 0, none⟩))) w) := hide ⟨q, rfl, Nd.leaf _ q key val (.inr (.inl rfl)) hq, Touch.refl _ _⟩
    clear hq hqS hS
    go_enter Tryd.func32, Tryd.ntmps32
    go_wp2_with fail
    go_ret
    exact unhide HR
  | some t =>
    obtain ⟨p, rfl, hn⟩ := hp
    have hkk := kh_size (k := key) (by omega)
    have hlo := lead_ok (kh key) t hok
    have hlk := kh_size (k := (leadL (kh key) t).1) (by have := (okK_iff.1 hlo.1).2; omega)
    have HLD := hide (fun wx (hbx : Below w.heap.size w wx) => lead_any (kh key) hkk wx _ p t (hn.blw hbx) hri)
    have HFD := hide (fun wx => firstDiff_any (kh (leadL (kh key) t).1) (kh key) wx hlk hkk)
    have HWI := hide (fun n => with_any key val (fd (kh (leadL (kh key) t).1) (kh key)) (fd_le _ _) (by omega) t 0 (w.drewN n) S p q (hn.blw (below_drewN (Below.refl _ _) n)) hri hsp.1 hok hS (hq.drewN n) hqS rfl)
    have HPO : Hid (putO (some t) key val = putT (kh key) (fd (kh (leadL (kh key) t).1) (kh key)) key val t) := rfl
    rw [unhide HPO]
    have q2 : w.cell? ⟨q, 2, none⟩ = some (.string (kh key)) := hq.cell 2 rfl
    generalize hlh : kh (leadL (kh key) t).1 = lh at *
    have HLH := hide hlh
    clear hlh
    generalize fd lh (kh key) = A at *
    generalize putT (kh key) A key val t = D at *
    generalize kh key = hh at *
    clear hlo hlk hkk hn hq hS hqS HPO
    go_enter Tryd.func32, Tryd.ntmps32
    go_wp2_with fail
    go_region_law (first
      | (go_simp; go_at_call 67; refine (unhide HWI _).mono ?_; rintro e w7 ⟨p7, rfl, hn7, hT7⟩; go_simp)
      | (go_simp; go_at_call 68; refine (unhide HFD _).mono ?_; rintro e w6 ⟨rfl, n6, rfl⟩; go_simp)
      | (go_simp; go_at_call 31; refine (unhide HLD _ (below_drewN (Below.refl _ _) 1)).mono ?_; rintro e w5 ⟨ql, rfl, hB5, n5, rfl⟩; (have cl : w.cell? ⟨ql, 2, none⟩ = some (.string lh) := (by have h := hB5.cell 2 rfl; rw [unhide HLH] at h; exact h)); go_simp))
    all_goals
      have HN7 := hide (And.intro hn7 hT7)
      clear hn7 hT7
      go_wp2_with fail
      go_ret
      refine ⟨_, rfl, ?_, (Touch.ofBelow (below_drewN (Below.refl _ _) _)).trans (unhide HN7).2 (fun _ _ h => h)⟩
      exact (unhide HN7).1
end Go.Proofs.YtkcpdjeemdlgcaaDoor.Sha
namespace Go.Proofs.YtkcpdjeemdlgcaaDoor.Sha
open Go.ChangeShapes Go.WideShapes Go.ChangeAt Go.RowKit
set_option linter.unusedVariables false

theorem fd_alike (x y : ByteArray) (i : Nat) (h : i < fd x y) : bitN x i = bitN y i := (fdF_facts x y 256 0).2.2.1 i (Nat.zero_le _) h
theorem fd_apart (x y : ByteArray) (h : fd x y < 256) : bitN x (fd x y) ≠ bitN y (fd x y) := (fdF_facts x y 256 0).2.2.2 (by unfold fd at h; omega)
theorem Rise.up {m n : Nat} {t : Tr} (h : Rise m t) (hn : n ≤ t.at_) : Rise n t := by
  cases t with
  | leaf k v => exact hn
  | fork a hh l r => exact ⟨hn, h.2⟩
/-- A new leaf beside a map whose hash parts from its own at a bit ahead of the map's. -/
theorem forkT_facts {a m : Nat} {k v : ByteArray} {t : Tr} (ha : a < 256) (hm : m ≤ a) (hat : a < t.at_) (hr : Rise m t) (hs : Sep t) (h1 : ∀ i, i < a → bitN (kh k) i = bitN t.hash i) (h2 : bitN (kh k) a ≠ bitN t.hash a) :
    Rise m (forkT a (kh k) k v t) ∧ Sep (forkT a (kh k) k v t) ∧ (forkT a (kh k) k v t).hash = kh k := by
  have hup : Rise (a + 1) t := hr.up (by omega)
  have hl : Rise (a + 1) (.leaf k v) := show a + 1 ≤ 256 by omega
  unfold forkT
  split
  · rename_i hb
    exact ⟨⟨hm, ha, hl, hup⟩, ⟨fun _ _ => rfl, (fd_iff (kh k) t.hash a ha).2 ⟨h1, h2⟩, hb, trivial, hs⟩, rfl⟩
  · rename_i hb
    have hb2 : bitN t.hash a = 0 := by
      rcases bitN_01 t.hash a with e | e
      · exact e
      · rcases bitN_01 (kh k) a with e' | e'
        · exact absurd e' hb
        · exact absurd (e'.trans e.symm) h2
    exact ⟨⟨hm, ha, hup, hl⟩, ⟨h1, (fd_iff t.hash (kh k) a ha).2 ⟨fun i hi => (h1 i hi).symm, fun e => h2 e.symm⟩, hb2, hs, trivial⟩, rfl⟩
theorem putT_facts (k v : ByteArray) : ∀ (t : Tr) (m : Nat), Rise m t → Sep t → ∀ at_, at_ = fd (kh (leadL (kh k) t).1) (kh k) → m ≤ at_ →
    Rise m (putT (kh k) at_ k v t) ∧ Sep (putT (kh k) at_ k v t) ∧ ∀ i, i < at_ → i < t.at_ → bitN (putT (kh k) at_ k v t).hash i = bitN t.hash i
  | .leaf k' v', m, hr, hs, at_, he, hm => by
    have hle : at_ ≤ 256 := by rw [he]; exact fd_le _ _
    have hal : ∀ i, i < at_ → bitN (kh k) i = bitN (kh k') i := fun i hi => (fd_alike (kh k') (kh k) i (by rw [he] at hi; exact hi)).symm
    unfold putT
    by_cases h256 : at_ = 256
    · rw [if_pos h256]
      exact ⟨show m ≤ 256 by omega, trivial, fun i hi _ => hal i hi⟩
    · rw [if_neg h256]
      have hap : bitN (kh k) at_ ≠ bitN (kh k') at_ := by
        have h9 := fd_apart (kh k') (kh k) (by have h8 : at_ = fd (kh k') (kh k) := he; omega)
        have h8 : at_ = fd (kh k') (kh k) := he
        rw [← h8] at h9
        exact fun e => h9 e.symm
      obtain ⟨f1, f2, f3⟩ := forkT_facts (v := v) (t := .leaf k' v') (m := m) (show at_ < 256 by omega) hm (show at_ < 256 by omega) hr hs hal hap
      exact ⟨f1, f2, fun i hi _ => by rw [f3]; exact hal i hi⟩
  | .fork a hh l r, m, hr, hs, at_, he, hm => by
    have hbit := lead_bit (kh k) hr hs
    have hlike := lead_alike (kh k) (.fork a hh l r) m hr hs
    have hr' := hr
    have hs' := hs
    obtain ⟨r0, r1, r2, r3⟩ := hr
    obtain ⟨s0, s1, s2, s3, s4⟩ := hs
    have hll := r2.le
    have hrl := r3.le
    have hfd := (fd_iff l.hash r.hash a r1).1 s1
    have hne : at_ ≠ a := fun e => by
      have h9 := fd_apart (kh (leadL (kh k) (.fork a hh l r)).1) (kh k) (by rw [← he, e]; exact r1)
      rw [← he, e] at h9
      exact h9 hbit
    unfold putT
    by_cases hlt : a < at_
    · rw [if_pos hlt]
      by_cases hb : bitN (kh k) a = 0
      · rw [if_pos hb]
        have hel : at_ = fd (kh (leadL (kh k) l).1) (kh k) := by rw [he]; conv => lhs; unfold leadL; rw [if_pos hb]
        obtain ⟨f1, f2, f3⟩ := putT_facts k v l (a + 1) r2 s3 at_ hel (by omega)
        have g : ∀ i, i ≤ a → bitN (putT (kh k) at_ k v l).hash i = bitN l.hash i := fun i hi => f3 i (by omega) (by omega)
        refine ⟨⟨r0, r1, f1, r3⟩, ⟨fun i hi => by rw [g i (by omega)]; exact s0 i hi, (fd_iff _ _ a r1).2 ⟨fun i hi => by rw [g i (by omega)]; exact hfd.1 i hi, by rw [g a (Nat.le_refl _)]; exact hfd.2⟩, by rw [g a (Nat.le_refl _)]; exact s2, f2, s4⟩, fun i _ _ => rfl⟩
      · rw [if_neg hb]
        have hel : at_ = fd (kh (leadL (kh k) r).1) (kh k) := by rw [he]; conv => lhs; unfold leadL; rw [if_neg hb]
        obtain ⟨f1, f2, f3⟩ := putT_facts k v r (a + 1) r3 s4 at_ hel (by omega)
        have g : ∀ i, i ≤ a → bitN (putT (kh k) at_ k v r).hash i = bitN r.hash i := fun i hi => f3 i (by omega) (by omega)
        refine ⟨⟨r0, r1, r2, f1⟩, ⟨s0, (fd_iff _ _ a r1).2 ⟨fun i hi => by rw [g i (by omega)]; exact hfd.1 i hi, by rw [g a (Nat.le_refl _)]; exact hfd.2⟩, s2, s3, f2⟩, fun i _ _ => rfl⟩
    · rw [if_neg hlt]
      have hal : ∀ i, i < at_ → bitN (kh k) i = bitN hh i := fun i hi => by
        rw [← fd_alike (kh (leadL (kh k) (.fork a hh l r)).1) (kh k) i (by rw [← he]; exact hi)]
        exact hlike i (show i < a by omega)
      have hap : bitN (kh k) at_ ≠ bitN hh at_ := by
        have h9 := fd_apart (kh (leadL (kh k) (.fork a hh l r)).1) (kh k) (by rw [← he]; omega)
        rw [← he] at h9
        rw [hlike at_ (show at_ < a by omega)] at h9
        exact fun e => h9 e.symm
      obtain ⟨f1, f2, f3⟩ := forkT_facts (v := v) (t := .fork a hh l r) (m := m) (show at_ < 256 by omega) hm (show at_ < a by omega) hr' hs' hal hap
      exact ⟨f1, f2, fun i hi _ => by rw [f3]; exact hal i hi⟩
theorem putO_rise {o : Option Tr} (key val : ByteArray) (hr : RiseO o) (hs : SepO o) : RiseO (some (putO o key val)) ∧ Sep (putO o key val) := by
  cases o with
  | none => exact ⟨Nat.zero_le _, trivial⟩
  | some t =>
    have h := putT_facts key val t 0 hr hs.1 (putAt t key) rfl (Nat.zero_le _)
    exact ⟨h.1, h.2.1⟩
/-- What is left of a map without a key's leaf. -/
def DropF (m : Nat) (t : Tr) : Option Tr → Prop
  | none => True
  | some t' => Rise m t' ∧ Sep t' ∧ ∀ i, i < t.at_ → bitN t'.hash i = bitN t.hash i
theorem dropT_facts (h : ByteArray) : ∀ (t : Tr) (m : Nat), Rise m t → Sep t → DropF m t (dropT h t)
  | .leaf k v, m, hr, hs => trivial
  | .fork a hh l r, m, hr, hs => by
    obtain ⟨r0, r1, r2, r3⟩ := hr
    obtain ⟨s0, s1, s2, s3, s4⟩ := hs
    have hll := r2.le
    have hrl := r3.le
    have hfd := (fd_iff l.hash r.hash a r1).1 s1
    have i1 := dropT_facts h l (a + 1) r2 s3
    have i2 := dropT_facts h r (a + 1) r3 s4
    unfold dropT
    split
    · cases hd : dropT h l with
      | none => exact ⟨r3.up (by omega), s4, fun i hi => ((s0 i hi).trans (hfd.1 i hi)).symm⟩
      | some l' =>
        rw [hd] at i1
        obtain ⟨f1, f2, f3⟩ := i1
        have g : ∀ i, i ≤ a → bitN l'.hash i = bitN l.hash i := fun i hi => f3 i (by omega)
        exact ⟨⟨r0, r1, f1, r3⟩, ⟨fun i hi => by rw [g i (by omega)]; exact s0 i hi, (fd_iff _ _ a r1).2 ⟨fun i hi => by rw [g i (by omega)]; exact hfd.1 i hi, by rw [g a (Nat.le_refl _)]; exact hfd.2⟩, by rw [g a (Nat.le_refl _)]; exact s2, f2, s4⟩, fun i _ => rfl⟩
    · cases hd : dropT h r with
      | none => exact ⟨r2.up (by omega), s3, fun i hi => (s0 i hi).symm⟩
      | some r' =>
        rw [hd] at i2
        obtain ⟨f1, f2, f3⟩ := i2
        have g : ∀ i, i ≤ a → bitN r'.hash i = bitN r.hash i := fun i hi => f3 i (by omega)
        exact ⟨⟨r0, r1, r2, f1⟩, ⟨s0, (fd_iff _ _ a r1).2 ⟨fun i hi => by rw [g i (by omega)]; exact hfd.1 i hi, by rw [g a (Nat.le_refl _)]; exact hfd.2⟩, s2, s3, f2⟩, fun i _ => rfl⟩
end Go.Proofs.YtkcpdjeemdlgcaaDoor.Sha
