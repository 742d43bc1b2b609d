/- What the proof of the claim needs (joined by program): BrV BrPu BrWo Set4 BrO BrBh BrMd BrVi. -/
import Derived.Test.YtbchnheinnileaaGreatDoorQca04
import Derived.Test.YtbchnheinnileaaGreatDoorQca00
import Derived.Deep.RegionLaw
import Derived.Deep.QuietTactic
import Derived.BigQuiet
import Derived.Deep.Onto
import Derived.Deep.RegionHeld3
import Derived.Deep.RegionHeldLaw
import Derived.Deep.AppendLies
import Derived.RangeFuncNested
import Derived.RangeFuncBound
import Derived.RangeFuncCalls
import Derived.RangeFuncLeaves
import Derived.RangeFuncFrom
import Derived.Shelf.Abstract
import Derived.Shelf.RegionOpen
import Derived.WalkKit
import Derived.OwnWalkIn
import Derived.TacticsInMore
import Derived.LoopNIn
import Derived.LoopIn
namespace Go.Proofs.YtbchnheinnileaaGreatDoor.Sha
set_option maxRecDepth 100000
set_option maxHeartbeats 8000000
open Go.ChangeShapes Go.WideShapes Go.ChangeAt Go.RowKit
set_option linter.unusedVariables false
set_option linter.unusedSimpArgs false
def FindR (o : Option Tr) (key : ByteArray) (w : World) (e : Ending) (w' : World) : Prop := ∃ qv, e = .returned (.pointer qv) ∧ Below w.heap.size w w' ∧
 ((qv = none ∧ ∀ t, o = some t → (leadL (kh key) t).1 ≠ key) ∨ ∃ t q, o = some t ∧ (leadL (kh key) t).1 = key ∧ qv = some ⟨q, 0, none⟩ ∧ Blk w' q (lfC key (leadL (kh key) t).2))
theorem find_any (key : ByteArray) (hk : key.size ≤ 24) (w : World) (S : Nat → Prop) (pv : Option Addr) (o : Option Tr) (hp : PtrM w S pv o) (hr : RiseO o) (ht : Tab w) :
  Calls Tryz.prog 116 #[.pointer pv, .string key] w fun e w' => FindR o key w e w' := by
 obtain ⟨cap, w1, hcv, hB, hb1⟩ := str_bytesB key w (by unfold maxLen; omega)
 have HH := Hd (implHash_any _ _ w1 hB (ht.below hb1).2 (ht.below hb1).1)
 have HV : Hid (kh key = hashV (bytesI key)) := rfl
 have hks := kh_size (k := key) (by omega)
 have B1 := Hd hb1
 have HPM := Hd (hp.blw hb1)
 clear hB ht hb1 hp
 cases o with
 | none =>
  obtain rfl : pv = none := uh HPM
  go_enter Tryz.func116, Tryz.ntmps116
  go_wp2_with fail
  refine (uh HH).mono ?_
  rintro e w2 ⟨rfl, hb2⟩
  have B2 := hbt B1 hb2
  clear hb2
  rw [← uh HV]
  have HLD : Hid (Calls Tryz.prog 126 #[.pointer none, .string (kh key)] w2 fun e w' => e = .returned (.pointer none) ∧ w' = w2) := Hd (by
   clear HH hcv
   generalize kh key = h at *
   go_enter Tryz.func126, Tryz.ntmps126
   go_wp2_with fail
   go_loopw [0] (fun nv wr => nv = .pointer none ∧ wr = w2) (fun _ _ => 0)
   case atStart => exact ⟨rfl, rfl⟩
   case round =>
    obtain ⟨rfl, hwr⟩ := hrel
    subst wr
    go_wp2_with fail
    go_ret
    exact ⟨rfl, rfl⟩)
  go_wp2_with fail
  refine (uh HLD).mono ?_
  rintro e w9 ⟨rfl, hw9⟩
  subst w9
  go_wp2_with fail
  go_ret
  exact ⟨none, rfl, uh B2, .inl ⟨rfl, fun t ht => by cases ht⟩⟩
 | some t =>
  obtain ⟨p, rfl, hn⟩ := uh HPM
  have HN := Hd hn
  have HR := Hd hr
  clear hn hr HPM
  go_enter Tryz.func116, Tryz.ntmps116
  go_wp2_with fail
  refine (uh HH).mono ?_
  rintro e w2 ⟨rfl, hb2⟩
  have B2 := hbt B1 hb2
  have N2 := Hd ((uh HN).blw hb2)
  clear hb2 HN HH hcv
  rw [← uh HV]
  have HLD := Hd (lead_any (kh key) hks w2 S p t (uh N2) (uh HR))
  have HF : Hid (∀ qv w', Below w.heap.size w w' → ((qv = none ∧ (leadL (kh key) t).1 ≠ key) ∨ ∃ q, (leadL (kh key) t).1 = key ∧ qv = some ⟨q, 0, none⟩ ∧ Blk w' q (lfC key (leadL (kh key) t).2)) → FindR (some t) key w (.returned (.pointer qv)) w') := Hd (fun qv w' hb h => by
   refine ⟨qv, rfl, hb, ?_⟩
   rcases h with ⟨h1, h2⟩ | ⟨q, h1, h2, h3⟩
   ·exact .inl ⟨h1, fun t' ht => by cases ht; exact h2⟩
   ·exact .inr ⟨t, q, rfl, h1, h2, h3⟩)
  generalize leadL (kh key) t = kv at *
  obtain ⟨k, v⟩ := kv
  dsimp only at HLD HF
  clear HV hks
  generalize kh key = h at *
  go_wp2_with fail
  refine (uh HLD).mono ?_
  rintro e w3 ⟨q, rfl, hq, n, hw3⟩
  have B3 : Hid (Below w.heap.size w w3) := Hd (by rw [hw3]; exact below_drewN (uh B2) n)
  have X3 := Hd hq
  have x0 := hq.cell 0 rfl
  clear hq hw3 HLD
  by_cases hkk : k = key
  ·have hb := list_eq hkk
   have HK := Hd hkk
   clear hkk
   go_wp2_with fail
   go_ret
   refine uh HF _ w3 (uh B3) (.inr ⟨q, uh HK, rfl, ?_⟩)
   have := uh X3
   rw [uh HK] at this
   exact this
  ·have hb := list_ne hkk
   have HK := Hd hkk
   clear hkk
   go_wp2_with fail
   go_ret
   exact uh HF _ w3 (uh B3) (.inl ⟨rfl, uh HK⟩)
def getV (o : Option Tr) (key : ByteArray) : Option ByteArray := match o with
 | none => none
 | some t => if (leadL (kh key) t).1 = key then some (leadL (kh key) t).2 else none
def Tr.lvN : Tr → Nat
 | .leaf _ _ => 1
 | .fork _ _ l r => l.lvN + r.lvN
def Sep : Tr → Prop
 | .leaf _ _ => True
 | .fork a h l r => (∀ i, i < a → bitN h i = bitN l.hash i) ∧ fd l.hash r.hash = a ∧ bitN l.hash a = 0 ∧ Sep l ∧ Sep r
def SepO : Option Tr → Prop
 | none => True
 | some t => Sep t ∧ t.lvN ≤ 40
theorem fdF_comm (x y : ByteArray) : ∀ n i, fdF x y n i = fdF y x n i
 | 0, i => rfl
 | n + 1, i => by
  unfold fdF
  by_cases h : bitN x i = bitN y i
  ·rw [if_pos h, if_pos h.symm, fdF_comm x y n]
  ·rw [if_neg h, if_neg (fun e => h e.symm)]
theorem fd_comm (x y : ByteArray) : fd x y = fd y x := fdF_comm x y 256 0
theorem lead_alike (h : ByteArray) : ∀ (t : Tr) (m : Nat), Rise m t → Sep t → ∀ i, i < t.at_ → bitN (kh (leadL h t).1) i = bitN t.hash i
 | .leaf k v, m, hr, hs, i, hi => rfl
 | .fork a hh l r, m, hr, hs, i, hi => by
  obtain ⟨r0, r1, r2, r3⟩ := hr
  obtain ⟨s0, s1, s2, s3, s4⟩ := hs
  have hi' : i < a := hi
  have hl := r2.le
  have hrr := r3.le
  unfold leadL
  split
  ·rw [lead_alike h l _ r2 s3 i (by omega)]
   show _ = bitN hh i
   rw [s0 i hi']
  ·rw [lead_alike h r _ r3 s4 i (by omega)]
   show _ = bitN hh i
   rw [s0 i hi']
   exact (((fd_iff l.hash r.hash a r1).1 s1).1 i hi').symm
theorem lead_bit (h : ByteArray) {a : Nat} {hh : ByteArray} {l r : Tr} {m : Nat} (hr : Rise m (.fork a hh l r)) (hs : Sep (.fork a hh l r)) : bitN (kh (leadL h (.fork a hh l r)).1) a = bitN h a := by
 obtain ⟨r0, r1, r2, r3⟩ := hr
 obtain ⟨s0, s1, s2, s3, s4⟩ := hs
 have hl := r2.le
 have hrr := r3.le
 unfold leadL
 split
 ·rename_i hb
  rw [lead_alike h l _ r2 s3 a (by omega), s2, hb]
 ·rename_i hb
  rw [lead_alike h r _ r3 s4 a (by omega)]
  have h1 := ((fd_iff l.hash r.hash a r1).1 s1).2
  rcases bitN_01 r.hash a with e | e
  ·exact absurd (s2.trans e.symm) h1
  ·rcases bitN_01 h a with e' | e'
   ·exact absurd e' hb
   ·rw [e, e']
def forkT (a : Nat) (h k v : ByteArray) (t : Tr) : Tr := if bitN h a = 0 then .fork a h (.leaf k v) t else .fork a h t (.leaf k v)
def putT (h : ByteArray) (at_ : Nat) (k v : ByteArray) : Tr → Tr
 | .leaf k' v' => if at_ = 256 then .leaf k v else forkT at_ h k v (.leaf k' v')
 | .fork a hh l r => if a < at_ then (if bitN h a = 0 then .fork a hh (putT h at_ k v l) r else .fork a hh l (putT h at_ k v r)) else forkT at_ h k v (.fork a hh l r)
theorem forkT_ok {a : Nat} {h k v : ByteArray} {t : Tr} (ha : a < 256) (hh : h.size = 32) (hk : okK k = true) (hv : v.size ≤ 60) (ht : TrOK t) : TrOK (forkT a h k v t) := by
 unfold forkT; split
 ·exact ⟨ha, hh, ⟨hk, hv⟩, ht⟩
 ·exact ⟨ha, hh, ht, ⟨hk, hv⟩⟩
theorem putT_ok (h : ByteArray) (a : Nat) (k v : ByteArray) (ha : a ≤ 256) (hh : h.size = 32) (hk : okK k = true) (hv : v.size ≤ 60) : ∀ t, TrOK t → TrOK (putT h a k v t)
 | .leaf k' v', ho => by
  unfold putT; split
  ·exact ⟨hk, hv⟩
  ·exact forkT_ok (by omega) hh hk hv ho
 | .fork b hb l r, ho => by
  unfold putT; split
  ·split
   ·exact ⟨ho.1, ho.2.1, putT_ok h a k v ha hh hk hv l ho.2.2.1, ho.2.2.2⟩
   ·exact ⟨ho.1, ho.2.1, ho.2.2.1, putT_ok h a k v ha hh hk hv r ho.2.2.2⟩
  ·exact forkT_ok (by have := ho.1; omega) hh hk hv ho
def WithR (S : Nat → Prop) (q : Nat) (t : Tr) (w : World) (e : Ending) (w' : World) : Prop := ∃ p, e = .returned (.pointer (some ⟨p, 0, none⟩)) ∧ Nd w' (fun b => S b ∨ b = q ∨ (w.heap.size ≤ b ∧ b < w'.heap.size)) p t ∧ Touch S w w'
theorem newFork_nd {w : World} {S : Nat → Prop} {p q a : Nat} {t : Tr} {k v : ByteArray} (hn : Nd w S p t) (ho : t.hash.size = 32) (hS : ∀ b, S b → b < w.heap.size) (hq : Blk w q (lfC k v)) (hqS : ¬ S q) (hk : k.size ≤ 65536) (ha : a < 256) (hxy : bitN (kh k) a ≠ bitN t.hash a) :
  Calls Tryz.prog 145 #[.int .i64 a, .pointer (some ⟨q, 0, none⟩), .pointer (some ⟨p, 0, none⟩)] w fun e w' => WithR S q (forkT a (kh k) k v t) w e w' := by
 refine (newFork_any a q p (kh k) t.hash w ha (kh_size hk) ho hxy hq.1 hn.here.2 (hq.cell 2 rfl) hn.hashC).mono ?_
 rintro e w' ⟨f, rfl, hf, hB, hb⟩
 have hq' := hq.1
 have hnq := hq.below hb
 have hnn := hn.blw hb
 refine ⟨f, rfl, ?_, Touch.ofBelow hb⟩
 have hfl := hB.1
 unfold forkT
 unfold kidsV at hB
 by_cases hb0 : bitN (kh k) a = 0
 ·rw [if_pos hb0] at hB ⊢
  exact .fork _ (fun b => b = q) S f a (kh k) (.leaf k v) t q p (.inr (.inr ⟨hf, hfl⟩)) (fun b e => ⟨.inr (.inl e), by omega⟩) (fun b e => ⟨.inl e, by have := hS b e; omega⟩) (fun b e h => hqS (e ▸ h)) hB (.leaf _ q k v rfl hnq) hnn
 ·rw [if_neg hb0] at hB ⊢
  exact .fork _ S (fun b => b = q) f a (kh k) t (.leaf k v) p q (.inr (.inr ⟨hf, hfl⟩)) (fun b e => ⟨.inl e, by have := hS b e; omega⟩) (fun b e => ⟨.inr (.inl e), by omega⟩) (fun b e h => hqS (h ▸ e)) hB hnn (.leaf _ q k v rfl hnq)
theorem hash_of_ok {t : Tr} (h : TrOK t) : t.hash.size = 32 := by
 cases t with
 | leaf k v => exact kh_size (by have := (okK_iff.1 h.1).2; omega)
 | fork a hh l r => exact h.2.1
def dropT (h : ByteArray) : Tr → Option Tr
 | .leaf _ _ => none
 | .fork a hh l r => if bitN h a = 0 then (match dropT h l with | none => some r | some l' => some (.fork a hh l' r)) else (match dropT h r with | none => some l | some r' => some (.fork a hh l r'))
theorem dropT_ok (h : ByteArray) : ∀ (t : Tr), TrOK t → OkO (dropT h t)
 | .leaf _ _, ho => trivial
 | .fork a hh l r, ho => by
  have h1 := dropT_ok h l ho.2.2.1
  have h2 := dropT_ok h r ho.2.2.2
  unfold dropT
  split
  ·cases he : dropT h l with
   | none => exact ho.2.2.2
   | some l' => rw [he] at h1; exact ⟨ho.1, ho.2.1, h1, ho.2.2.2⟩
  ·cases he : dropT h r with
   | none => exact ho.2.2.1
   | some r' => rw [he] at h2; exact ⟨ho.1, ho.2.1, ho.2.2.1, h2⟩
def DropR (S : Nat → Prop) (o : Option Tr) (w : World) (e : Ending) (w' : World) : Prop := ∃ pv, e = .returned (.pointer pv) ∧ PtrM w' S pv o ∧ Touch S w w'
theorem without_any (h : ByteArray) (hh : h.size = 32) : ∀ (t : Tr) (m : Nat) (w : World) (S : Nat → Prop) (p : Nat), Nd w S p t → Rise m t →
  Calls Tryz.prog 118 #[.pointer (some ⟨p, 0, none⟩), .string h] w fun e w' => DropR S (dropT h t) w e w' := by
 intro t
 induction t with
 | leaf k v =>
  intro m w S p hn hr
  cases hn with
  | leaf S p k v h0 h1 =>
   have x3 := h1.cell 3 rfl
   have HG : Hid (DropR S (dropT h (.leaf k v)) w (.returned (.pointer none)) w) := Hd ⟨none, rfl, rfl, Touch.refl _ _⟩
   clear h1 hr
   go_enter Tryz.func118, Tryz.ntmps118
   go_wp2_with fail
   go_ret
   exact uh HG
 | fork a hv l r ihl ihr =>
  intro m w S p hn hr
  cases hn with
  | fork S Sl Sr p a hv l r pl pr h0 h1 h2 h3 h4 h5 h6 =>
   obtain ⟨r0, r1, r2, r3⟩ := hr
   have X := Hd h4
   have x3 := h4.cell 3 rfl
   have x4 := h4.cell 4 rfl
   have x5 := h4.cell 5 rfl
   have HB := Hd (fun wx => hashBit_any h a wx hh r1)
   have hab : ((a : Int) == 256) = false := by rw [beq_eq_false_iff_ne]; omega
   have HN5 := Hd h5
   have HN6 := Hd h6
   have HS := Hd (And.intro h0 (And.intro h1 (And.intro h2 h3)))
   clear h1 h2 h3 h4 h5 h6 h0
   rcases bitN_01 h a with hb | hb
   ·have HC := Hd (ihl _ w Sl pl (uh HN5) r2)
    have HD : Hid (dropT h (.fork a hv l r) = match dropT h l with | none => some r | some l' => some (.fork a hv l' r)) := Hd (by conv => lhs; unfold dropT; rw [if_pos hb])
    rw [hb] at HB
    have hwr : IntKind.i64.wrap (1 : Int) = 1 := by decide
    clear ihl ihr
    generalize dropT h (.fork a hv l r) = D at *
    generalize dropT h l = d at *
    go_enter Tryz.func118, Tryz.ntmps118
    go_wp2_with fail
    refine (uh HB w).mono ?_
    rintro e w9 ⟨rfl, hw9⟩
    subst w9
    go_wp2_with fail
    refine (uh HC).mono ?_
    rintro e w2 ⟨pv, rfl, hp, hT⟩
    have X2 := (uh X).kept hT (fun e => ((uh HS).2.1 p e).2 rfl)
    have NO2 := (uh HN6).touch hT (fun b hb e => (uh HS).2.2.2 b e hb)
    have TS : Touch S w w2 := (Touch.refl S w).trans hT (fun b _ e => ((uh HS).2.1 b e).1)
    have y5 := X2.cell 5 rfl
    have y4 := X2.cell 4 rfl
    have g4 := X2.fro 4
    have HD2 := Hd (uh HD)
    clear x3 x4 x5 HC
    cases d with
    | none =>
     obtain rfl : pv = none := hp
     have HF : Hid (DropR S D w (.returned (.pointer (some ⟨pr, 0, none⟩))) w2) := Hd ⟨_, rfl, by rw [show D = some r from uh HD]; exact ⟨pr, rfl, NO2.mono (fun b hb => ((uh HS).2.2.1 b hb).1)⟩, TS⟩
     clear NO2 TS X2 hT
     go_wp2_with fail
     go_ret
     exact uh HF
    | some d' =>
     obtain ⟨q, rfl, hq⟩ := hp
     have HF : Hid (DropR S D w (.returned (.pointer (some ⟨p, 0, none⟩))) (w2.setCell ⟨p, 4, none⟩ (.pointer (some ⟨q, 0, none⟩)))) := Hd (by
      have XS := X2.set 4 (.pointer (some ⟨q, 0, none⟩)) (by simp [fkC])
      have tp := (Touch.refl (fun b => b = p) w2).setCell ⟨p, 4, none⟩ (.pointer (some ⟨q, 0, none⟩)) (fun _ => rfl)
      have NK := hq.touch tp (fun b hb e => ((uh HS).2.1 b hb).2 e)
      have NO := NO2.touch tp (fun b hb e => ((uh HS).2.2.1 b hb).2 e)
      refine ⟨_, rfl, ?_, TS.trans tp (fun b _ e => by rw [e]; exact (uh HS).1)⟩
      rw [show D = some (.fork a hv d' r) from uh HD]
      exact ⟨p, rfl, .fork S Sl Sr p a hv d' r q pr (uh HS).1 (uh HS).2.1 (uh HS).2.2.1 (uh HS).2.2.2 XS NK NO⟩)
     clear hq NO2 TS X2 hT
     go_wp2_with fail
     go_ret
     exact uh HF
   ·have HC := Hd (ihr _ w Sr pr (uh HN6) r3)
    have HD : Hid (dropT h (.fork a hv l r) = match dropT h r with | none => some l | some r' => some (.fork a hv l r')) := Hd (by conv => lhs; unfold dropT; rw [if_neg (by omega)])
    rw [hb] at HB
    have hwr : IntKind.i64.wrap (0 : Int) = 0 := by decide
    clear ihl ihr
    generalize dropT h (.fork a hv l r) = D at *
    generalize dropT h r = d at *
    go_enter Tryz.func118, Tryz.ntmps118
    go_wp2_with fail
    refine (uh HB w).mono ?_
    rintro e w9 ⟨rfl, hw9⟩
    subst w9
    go_wp2_with fail
    refine (uh HC).mono ?_
    rintro e w2 ⟨pv, rfl, hp, hT⟩
    have X2 := (uh X).kept hT (fun e => ((uh HS).2.2.1 p e).2 rfl)
    have NO2 := (uh HN5).touch hT (fun b hb e => (uh HS).2.2.2 b hb e)
    have TS : Touch S w w2 := (Touch.refl S w).trans hT (fun b _ e => ((uh HS).2.2.1 b e).1)
    have y4 := X2.cell 4 rfl
    have y5 := X2.cell 5 rfl
    have g5 := X2.fro 5
    have HD2 := Hd (uh HD)
    clear x3 x4 x5 HC
    cases d with
    | none =>
     obtain rfl : pv = none := hp
     have HF : Hid (DropR S D w (.returned (.pointer (some ⟨pl, 0, none⟩))) w2) := Hd ⟨_, rfl, by rw [show D = some l from uh HD]; exact ⟨pl, rfl, NO2.mono (fun b hb => ((uh HS).2.1 b hb).1)⟩, TS⟩
     clear NO2 TS X2 hT
     go_wp2_with fail
     go_ret
     exact uh HF
    | some d' =>
     obtain ⟨q, rfl, hq⟩ := hp
     have HF : Hid (DropR S D w (.returned (.pointer (some ⟨p, 0, none⟩))) (w2.setCell ⟨p, 5, none⟩ (.pointer (some ⟨q, 0, none⟩)))) := Hd (by
      have XS := X2.set 5 (.pointer (some ⟨q, 0, none⟩)) (by simp [fkC])
      have tp := (Touch.refl (fun b => b = p) w2).setCell ⟨p, 5, none⟩ (.pointer (some ⟨q, 0, none⟩)) (fun _ => rfl)
      have NK := hq.touch tp (fun b hb e => ((uh HS).2.2.1 b hb).2 e)
      have NO := NO2.touch tp (fun b hb e => ((uh HS).2.1 b hb).2 e)
      refine ⟨_, rfl, ?_, TS.trans tp (fun b _ e => by rw [e]; exact (uh HS).1)⟩
      rw [show D = some (.fork a hv l d') from uh HD]
      exact ⟨p, rfl, .fork S Sl Sr p a hv l d' pl q (uh HS).1 (uh HS).2.1 (uh HS).2.2.1 (uh HS).2.2.2 XS NO NK⟩)
     clear hq NO2 TS X2 hT
     go_wp2_with fail
     go_ret
     exact uh HF
end Go.Proofs.YtbchnheinnileaaGreatDoor.Sha
namespace Go.Proofs.YtbchnheinnileaaGreatDoor.Sha
set_option maxRecDepth 100000
set_option maxHeartbeats 8000000
open Go.ChangeShapes Go.WideShapes Go.ChangeAt Go.RowKit
set_option linter.unusedVariables false
def set4 (w : World) (R : Nat) (a b c d : Value) : World := (((w.setCell ⟨R, 0, none⟩ a).setCell ⟨R, 1, none⟩ b).setCell ⟨R, 2, none⟩ c).setCell ⟨R, 3, none⟩ d
theorem set4_touch (w : World) (R : Nat) (a b c d : Value) : Touch (fun x => x = R) w (set4 w R a b c d) :=
 ((((Touch.refl (fun x => x = R) w).setCell ⟨R, 0, none⟩ a (fun _ => rfl)).setCell ⟨R, 1, none⟩ b (fun _ => rfl)).setCell ⟨R, 2, none⟩ c (fun _ => rfl)).setCell ⟨R, 3, none⟩ d (fun _ => rfl)
theorem set4_blk {w : World} {R : Nat} {x0 x1 x2 x3 : Value} (h : Blk w R [x0, x1, x2, x3]) (a b c d : Value) : Blk (set4 w R a b c d) R [a, b, c, d] :=
 (((h.set 0 a (by simp)).set 1 b (by simp)).set 2 c (by simp)).set 3 d (by simp)
def RowIs (xs : List Value) (l : List Br) (kv : Nat → Value) (k : Nat) : Prop :=
 ∀ i, i < k → xs[i * 4]? = some (.string (l.getD i default).key) ∧ xs[i * 4 + 1]? = some (.string (l.getD i default).val) ∧ xs[i * 4 + 2]? = some (.int .i64 (l.getD i default).at_) ∧ xs[i * 4 + 3]? = some (kv i)
inductive BrO (w : World) : (Nat → Prop) → Value → List Br → Prop
 | nil (S : Nat → Prop) (a : Option Addr) (cap : Nat) : cap ≤ maxLen → BrO w S (.slice a 0 cap) []
 | row (S : Nat → Prop) (g cap : Nat) (l : List Br) (kv : Nat → Value) (xs : List Value) (Si : Nat → Nat → Prop) : 0 < l.length → S g →
   w.ownsRow 0 30 4 (.slice (some ⟨g, 0, none⟩) l.length cap) l.length xs → RowIs xs l kv l.length →
   (∀ i, i < l.length → (l.getD i default).key.size ≤ maxLen ∧ (l.getD i default).val.size ≤ maxLen) →
   (∀ i b, i < l.length → Si i b → S b ∧ b ≠ g) →
   (∀ i j b, i < j → j < l.length → Si i b → ¬ Si j b) →
   (∀ i, i < l.length → BrO w (Si i) (kv i) (l.getD i default).kids) →
   BrO w S (.slice (some ⟨g, 0, none⟩) l.length cap) l
theorem BrO.brs {w : World} {S : Nat → Prop} {v : Value} {l : List Br} (h : BrO w S v l) : Brs S w v l := by
 induction h with
 | nil S a cap hc => exact .nil a cap hc
 | row S g cap l kv xs Si h0 h1 h2 h3 h4 h5 h6 h7 ih =>
  obtain ⟨hl, hc⟩ := id h2
  rcases hc with ⟨hx, _⟩ | ⟨g', cap', cur, hv, hb, hg, hn, hm, hz, ht⟩
  ·cases hx
  ·simp only [Value.slice.injEq, Option.some.injEq, Addr.mk.injEq] at hv
   obtain ⟨⟨rfl, _, _⟩, _, rfl⟩ := hv
   refine .row g 0 cap l kv h0 hn hm (Array.getElem?_eq_some_iff.1 hg).1 h1 (fun i hi => ?_) h4 (fun i hi => (ih i hi).mono (fun b hb => (h5 i b hi hb).1))
   obtain ⟨e0, e1, e2, e3⟩ := h3 i hi
   rw [Nat.zero_add]
   exact ⟨(h2.cellAt _ (by omega)).trans e0, (h2.cellAt _ (by omega)).trans e1, (h2.cellAt _ (by omega)).trans e2, (h2.cellAt _ (by omega)).trans e3⟩
theorem BrO.touch {w w' : World} {S T : Nat → Prop} {v : Value} {l : List Br} (h : BrO w S v l) (ht : Touch T w w') (hn : ∀ k, S k → ¬ T k) : BrO w' S v l := by
 induction h with
 | nil S a cap hc => exact .nil S a cap hc
 | row S g cap l kv xs Si h0 h1 h2 h3 h4 h5 h6 h7 ih =>
  exact .row S g cap l kv xs Si h0 h1 (own_kept h2 ht (fun k hk => by cases hk; exact hn g h1)) h3 h4 h5 h6 (fun i hi => ih i hi (fun k hk => hn k (h5 i k hi hk).1))
theorem BrO.blw {w w' : World} {S : Nat → Prop} {v : Value} {l : List Br} (h : BrO w S v l) (hb : Below w.heap.size w w') : BrO w' S v l := h.touch (T := fun _ => False) (Touch.ofBelow hb) (fun _ _ h => h)
theorem BrO.mono {w : World} {S T : Nat → Prop} {v : Value} {l : List Br} (h : BrO w S v l) (hst : ∀ k, S k → T k) : BrO w T v l := by
 cases h with
 | nil S a cap hc => exact .nil T a cap hc
 | row S g cap l kv xs Si h0 h1 h2 h3 h4 h5 h6 h7 => exact .row T g cap l kv xs Si h0 (hst g h1) h2 h3 h4 (fun i b hi hb => ⟨hst b (h5 i b hi hb).1, (h5 i b hi hb).2⟩) h6 h7
theorem BrO.shape {w : World} {S : Nat → Prop} {v : Value} {l : List Br} (h : BrO w S v l) : ∃ a cap, v = .slice a l.length cap ∧ l.length ≤ cap ∧ cap ≤ maxLen := h.brs.shape
theorem infoBr : (Tryz.prog.info? 30).map (fun i => (i.zero, i.size, i.bytes)) = some (some (.agg #[.string ⟨#[]⟩, .string ⟨#[]⟩, .int .i64 0, .slice none 0 0]), 4, 64) := by kernel_rfl

end Go.Proofs.YtbchnheinnileaaGreatDoor.Sha
namespace Go.Proofs.YtbchnheinnileaaGreatDoor.Sha
set_option maxRecDepth 100000
set_option maxHeartbeats 8000000
open Go.ChangeShapes Go.WideShapes Go.ChangeAt Go.RowKit
set_option linter.unusedVariables false
set_option linter.unusedSimpArgs false
def BranchR (b : Br) (w : World) (e : Ending) (w' : World) : Prop := ∃ sa n cap, e = .returned (.agg #[.string b.key, .string b.val, .int .i64 b.at_, .slice sa n cap]) ∧ BrO w' (fun x => w.heap.size ≤ x ∧ x < w'.heap.size) (.slice sa n cap) b.kids ∧ Below w.heap.size w w'
theorem toBr_small {t : Tr} (h : TrOK t) : t.toBr.key.size ≤ maxLen ∧ t.toBr.val.size ≤ maxLen := by
 cases t with
 | leaf k v =>
  have h1 := (okK_iff.1 h.1).2
  have h2 : v.size ≤ 60 := h.2
  simp only [Tr.toBr, Br.key, Br.val]
  unfold maxLen
  omega
 | fork a hh l r =>
  simp only [Tr.toBr, Br.key, Br.val]
  unfold maxLen
  simp [ByteArray.size]
theorem BrO.two {w : World} {m0 m1 : Nat} {b0 b1 : Br} {v0 v1 : Value} (h0 : BrO w (fun x => m0 ≤ x ∧ x < m1) v0 b0.kids) (h1 : BrO w (fun x => m1 ≤ x ∧ x < w.heap.size) v1 b1.kids) (hm : m0 ≤ m1) (hm2 : m1 ≤ w.heap.size)
  (z0 : b0.key.size ≤ maxLen ∧ b0.val.size ≤ maxLen) (z1 : b1.key.size ≤ maxLen ∧ b1.val.size ≤ maxLen) :
  BrO (w.alloc (.cells #[.string b0.key, .string b0.val, .int .i64 b0.at_, v0, .string b1.key, .string b1.val, .int .i64 b1.at_, v1] 30)) (fun x => m0 ≤ x ∧ x < w.heap.size + 1) (.slice (some ⟨w.heap.size, 0, none⟩) 2 2) [b0, b1] := by
 have BB := bal w (.cells #[.string b0.key, .string b0.val, .int .i64 b0.at_, v0, .string b1.key, .string b1.val, .int .i64 b1.at_, v1] 30)
 have hrow := World.ownsRow_lit (base := 0) (e := 30) (size := 4) w #[.string b0.key, .string b0.val, .int .i64 b0.at_, v0, .string b1.key, .string b1.val, .int .i64 b1.at_, v1] 2 (Nat.zero_le _) (by unfold maxLen; omega) rfl
 refine BrO.row _ w.heap.size 2 [b0, b1] (fun i => if i = 0 then v0 else v1) _ (fun i x => if i = 0 then m0 ≤ x ∧ x < m1 else m1 ≤ x ∧ x < w.heap.size) (by simp) ⟨by omega, by omega⟩ hrow ?_ ?_ ?_ ?_ ?_
 ·intro i hi
  have hi2 : i < 2 := hi
  rcases (show i = 0 ∨ i = 1 by omega) with rfl | rfl
  ·exact ⟨rfl, rfl, rfl, rfl⟩
  ·exact ⟨rfl, rfl, rfl, rfl⟩
 ·intro i hi
  have hi2 : i < 2 := hi
  rcases (show i = 0 ∨ i = 1 by omega) with rfl | rfl
  ·exact z0
  ·exact z1
 ·intro i b hi hb
  have hi2 : i < 2 := hi
  rcases (show i = 0 ∨ i = 1 by omega) with rfl | rfl
  ·rw [if_pos rfl] at hb; omega
  ·rw [if_neg (by omega)] at hb; omega
 ·intro i j b hij hj hb hb2
  have hj2 : j < 2 := hj
  obtain rfl : i = 0 := by omega
  obtain rfl : j = 1 := by omega
  rw [if_pos rfl] at hb
  rw [if_neg (by omega)] at hb2
  omega
 ·intro i hi
  have hi2 : i < 2 := hi
  rcases (show i = 0 ∨ i = 1 by omega) with rfl | rfl
  ·exact h0.blw BB
  ·exact h1.blw BB
theorem branch_any {w0 : World} {S : Nat → Prop} {p : Nat} {t : Tr} (h : Nd w0 S p t) : TrOK t → ∀ w, Below w0.heap.size w0 w →
  Calls Tryz.prog 72 #[.pointer (some ⟨p, 0, none⟩)] w fun e w' => BranchR t.toBr w e w' := by
 induction h with
 | leaf S p k v hS hb =>
  intro hok w hb0
  have BB := bal w (.cells #[.string ⟨#[]⟩, .string ⟨#[]⟩, .int .i64 0, .slice none 0 0] 30)
  have R1 := Hd (Blk.new w #[.string ⟨#[]⟩, .string ⟨#[]⟩, .int .i64 0, .slice none 0 0] 30 w.heap.size rfl)
  have X1 := Hd ((hb.below hb0).below BB)
  have B1 := Hd BB
  have HGR : Hid (∀ w', Below w.heap.size w w' → BranchR (Tr.leaf k v).toBr w (.returned (.agg #[.string k, .string v, .int .i64 256, .slice none 0 0])) w') := Hd (fun w' hb => ⟨none, 0, 0, rfl, .nil _ _ _ (by unfold maxLen; omega), hb⟩)
  clear hb hb0 hok BB
  go_enter Tryz.func72, Tryz.ntmps72
  have x0 := (uh X1).cell 0 rfl
  have x1 := (uh X1).cell 1 rfl
  have x3 := (uh X1).cell 3 rfl
  go_upto_region 4 with fail
  generalize w.alloc (.cells #[.string ⟨#[]⟩, .string ⟨#[]⟩, .int .i64 0, .slice none 0 0] 30) = w1 at *
  generalize hR : w.heap.size = R at *
  have HRW := Hd hR
  clear hR
  have r0 := (uh R1).cell 0 rfl
  have r1 := (uh R1).cell 1 rfl
  have r2 := (uh R1).cell 2 rfl
  have r3 := (uh R1).cell 3 rfl
  have f0 := (uh R1).fro 0
  have f1 := (uh R1).fro 1
  have f2 := (uh R1).fro 2
  have f3 := (uh R1).fro 3
  have R2 := set4_blk (uh R1) (.string k) (.string v) (.int .i64 256) (.slice none 0 0)
  have z0 : (set4 w1 R (.string k) (.string v) (.int .i64 256) (.slice none 0 0)).drew.cell? ⟨R, 0, none⟩ = some (.string k) := R2.cell 0 rfl
  have z1 : (set4 w1 R (.string k) (.string v) (.int .i64 256) (.slice none 0 0)).drew.cell? ⟨R, 1, none⟩ = some (.string v) := R2.cell 1 rfl
  have z2 : (set4 w1 R (.string k) (.string v) (.int .i64 256) (.slice none 0 0)).drew.cell? ⟨R, 2, none⟩ = some (.int .i64 256) := R2.cell 2 rfl
  have z3 : (set4 w1 R (.string k) (.string v) (.int .i64 256) (.slice none 0 0)).drew.cell? ⟨R, 3, none⟩ = some (.slice none 0 0) := R2.cell 3 rfl
  unfold set4 at z0 z1 z2 z3
  have B2 := Hd (below_drewN ((uh B1).trans ((set4_touch w1 R (.string k) (.string v) (.int .i64 256) (.slice none 0 0)).below (B := R) (Nat.le_of_lt (uh R1).1) (fun b hb e => by omega))) 1)
  clear R2
  go_wp2_with fail
  go_big_region
  go_wp2_with fail
  refine bodyPost_ret (v := .agg #[.string k, .string v, .int .i64 256, .slice none 0 0]) (by simp [results, Tryz.results72, go_sem, z0, z1, z2, z3]) rfl ?_
  exact uh HGR _ (uh B2)
 | fork S Sl Sr p a hh l r pl pr hS h1 h2 h3 hb hl hr ihl ihr =>
  intro hok w hb0
  obtain ⟨ha, _, okl, okr⟩ := hok
  have BB := bal w (.cells #[.string ⟨#[]⟩, .string ⟨#[]⟩, .int .i64 0, .slice none 0 0] 30)
  have R1 := Hd (Blk.new w #[.string ⟨#[]⟩, .string ⟨#[]⟩, .int .i64 0, .slice none 0 0] 30 w.heap.size rfl)
  have X1 := Hd ((hb.below hb0).below BB)
  have B1 := Hd BB
  have HL := Hd (fun wx (hx : Below w.heap.size w wx) => ihl okl wx (hb0.trans (hx.mono hb0.size)))
  have HR := Hd (fun wx (hx : Below w.heap.size w wx) => ihr okr wx (hb0.trans (hx.mono hb0.size)))
  have HGR : Hid (∀ sa n cap w', BrO w' (fun x => w.heap.size ≤ x ∧ x < w'.heap.size) (.slice sa n cap) [l.toBr, r.toBr] → Below w.heap.size w w' → BranchR (Tr.fork a hh l r).toBr w (.returned (.agg #[.string ⟨#[]⟩, .string ⟨#[]⟩, .int .i64 a, .slice sa n cap])) w') := Hd (fun sa n cap w' h1 hb => ⟨sa, n, cap, rfl, h1, hb⟩)
  have HZL := Hd (toBr_small okl)
  have HZR := Hd (toBr_small okr)
  have hab : ((a : Int) == 256) = false := by rw [beq_eq_false_iff_ne]; omega
  have hsz : (w.alloc (.cells #[.string ⟨#[]⟩, .string ⟨#[]⟩, .int .i64 0, .slice none 0 0] 30)).heap.size = w.heap.size + 1 := by simp
  have hpR : p < w.heap.size := Nat.lt_of_lt_of_le hb.1 hb0.size
  clear hb hb0 ihl ihr hl hr h1 h2 h3 BB
  have x3 := (uh X1).cell 3 rfl
  have x4 := (uh X1).cell 4 rfl
  have x5 := (uh X1).cell 5 rfl
  have hX := (uh X1).1
  go_enter Tryz.func72, Tryz.ntmps72
  go_upto_region 5 with fail
  generalize w.alloc (.cells #[.string ⟨#[]⟩, .string ⟨#[]⟩, .int .i64 0, .slice none 0 0] 30) = w1 at *
  have HL1 := Hd (uh HL w1.drew (below_drewN (uh B1) 1))
  have HSX := Hd (fun wx (hx : Touch (fun b => w.heap.size ≤ b) w1 wx) => show wx.cell? ⟨p, 3, none⟩ = some (.int .i64 a) ∧ wx.cell? ⟨p, 4, none⟩ = some (.pointer (some ⟨pl, 0, none⟩)) ∧ wx.cell? ⟨p, 5, none⟩ = some (.pointer (some ⟨pr, 0, none⟩)) from
   ⟨(hx.cell (p := ⟨p, 3, none⟩) hX (by simp; omega)).trans x3, (hx.cell (p := ⟨p, 4, none⟩) hX (by simp; omega)).trans x4, (hx.cell (p := ⟨p, 5, none⟩) hX (by simp; omega)).trans x5⟩)
  have HE : Hid (∀ (w2 w3 : World) (s1 : Option Addr) (n1 c1 : Nat) (s2 : Option Addr) (n2 c2 : Nat), BrO w2 (fun x => w1.heap.size ≤ x ∧ x < w2.heap.size) (.slice s1 n1 c1) l.toBr.kids → BrO w3 (fun x => w2.heap.size ≤ x ∧ x < w3.heap.size) (.slice s2 n2 c2) r.toBr.kids → Below w1.heap.size w1 w2 → Below w2.heap.size w2 w3 →
    Blk (set4 (w3.alloc (.cells #[.string l.toBr.key, .string l.toBr.val, .int .i64 l.toBr.at_, .slice s1 n1 c1, .string r.toBr.key, .string r.toBr.val, .int .i64 r.toBr.at_, .slice s2 n2 c2] 30)) w.heap.size (.string ⟨#[]⟩) (.string ⟨#[]⟩) (.int .i64 a) (.slice (some ⟨w3.heap.size, 0, none⟩) 2 2)) w.heap.size [.string ⟨#[]⟩, .string ⟨#[]⟩, .int .i64 a, .slice (some ⟨w3.heap.size, 0, none⟩) 2 2] ∧
    BrO (set4 (w3.alloc (.cells #[.string l.toBr.key, .string l.toBr.val, .int .i64 l.toBr.at_, .slice s1 n1 c1, .string r.toBr.key, .string r.toBr.val, .int .i64 r.toBr.at_, .slice s2 n2 c2] 30)) w.heap.size (.string ⟨#[]⟩) (.string ⟨#[]⟩) (.int .i64 a) (.slice (some ⟨w3.heap.size, 0, none⟩) 2 2)) (fun x => w.heap.size ≤ x ∧ x < (set4 (w3.alloc (.cells #[.string l.toBr.key, .string l.toBr.val, .int .i64 l.toBr.at_, .slice s1 n1 c1, .string r.toBr.key, .string r.toBr.val, .int .i64 r.toBr.at_, .slice s2 n2 c2] 30)) w.heap.size (.string ⟨#[]⟩) (.string ⟨#[]⟩) (.int .i64 a) (.slice (some ⟨w3.heap.size, 0, none⟩) 2 2)).heap.size) (.slice (some ⟨w3.heap.size, 0, none⟩) 2 2) [l.toBr, r.toBr] ∧
    Below w.heap.size w (set4 (w3.alloc (.cells #[.string l.toBr.key, .string l.toBr.val, .int .i64 l.toBr.at_, .slice s1 n1 c1, .string r.toBr.key, .string r.toBr.val, .int .i64 r.toBr.at_, .slice s2 n2 c2] 30)) w.heap.size (.string ⟨#[]⟩) (.string ⟨#[]⟩) (.int .i64 a) (.slice (some ⟨w3.heap.size, 0, none⟩) 2 2))) := Hd (fun w2 w3 s1 n1 c1 s2 n2 c2 h1 h2 hb2 hb3 => by
   have hz2 := hb2.size
   have hz3 := hb3.size
   have ht := set4_touch (w3.alloc (.cells #[.string l.toBr.key, .string l.toBr.val, .int .i64 l.toBr.at_, .slice s1 n1 c1, .string r.toBr.key, .string r.toBr.val, .int .i64 r.toBr.at_, .slice s2 n2 c2] 30)) w.heap.size (.string ⟨#[]⟩) (.string ⟨#[]⟩) (.int .i64 a) (.slice (some ⟨w3.heap.size, 0, none⟩) 2 2)
   have ho := BrO.two (h1.blw hb3) h2 hz2 hz3 (uh HZL) (uh HZR)
   have hal : (w3.alloc (.cells #[.string l.toBr.key, .string l.toBr.val, .int .i64 l.toBr.at_, .slice s1 n1 c1, .string r.toBr.key, .string r.toBr.val, .int .i64 r.toBr.at_, .slice s2 n2 c2] 30)).heap.size = w3.heap.size + 1 := by simp
   have hts := ht.size
   refine ⟨set4_blk ((((uh R1).below hb2).below hb3).alloc (.cells #[.string l.toBr.key, .string l.toBr.val, .int .i64 l.toBr.at_, .slice s1 n1 c1, .string r.toBr.key, .string r.toBr.val, .int .i64 r.toBr.at_, .slice s2 n2 c2] 30)) _ _ _ _, (ho.touch ht (fun b hb e => by omega)).mono (fun b hb => ⟨by omega, by omega⟩), ?_⟩
   have hb4 : Below w.heap.size w (w3.alloc (.cells #[.string l.toBr.key, .string l.toBr.val, .int .i64 l.toBr.at_, .slice s1 n1 c1, .string r.toBr.key, .string r.toBr.val, .int .i64 r.toBr.at_, .slice s2 n2 c2] 30)) := (((uh B1).trans (hb2.mono (by omega))).trans (hb3.mono (by omega))).alloc (by omega) (.cells #[.string l.toBr.key, .string l.toBr.val, .int .i64 l.toBr.at_, .slice s1 n1 c1, .string r.toBr.key, .string r.toBr.val, .int .i64 r.toBr.at_, .slice s2 n2 c2] 30)
   exact hb4.trans (ht.below (by omega) (fun b hb e => by omega)))
  have hz1 := hsz
  go_wp2_with fail
  go_region_held3 (fun wx => wx.cell? ⟨p, 3, none⟩ = some (.int .i64 a) ∧ wx.cell? ⟨p, 4, none⟩ = some (.pointer (some ⟨pl, 0, none⟩)) ∧ wx.cell? ⟨p, 5, none⟩ = some (.pointer (some ⟨pr, 0, none⟩)))
   (first | exact uh HSX _ T5 | exact uh HSX _ T4 | exact uh HSX _ T3 | exact uh HSX _ T2 | go_keep)
   (first
    | (go_at_call 72; refine (uh HR w2 hb2w).mono ?_; rintro e w3 ⟨s2, n2, c2, rfl, hO3, hb3⟩; have R4 := ((((uh R1).below hb2).below hb3).alloc (.cells #[.string l.toBr.key, .string l.toBr.val, .int .i64 l.toBr.at_, .slice s1 n1 c1, .string r.toBr.key, .string r.toBr.val, .int .i64 r.toBr.at_, .slice s2 n2 c2] 30)); have r0 := R4.cell 0 rfl; have r1 := R4.cell 1 rfl; have r2 := R4.cell 2 rfl; have r3 := R4.cell 3 rfl; have f0 := R4.fro 0; have f1 := R4.fro 1; have f2 := R4.fro 2; have f3 := R4.fro 3; have T3 : Touch (fun b => w.heap.size ≤ b) w1 w3 := T2.trans (T' := fun b => w.heap.size ≤ b) (Touch.ofBelow hb3) (fun _ _ h => h); have T4 : Touch (fun b => w.heap.size ≤ b) w1 (w3.alloc (.cells #[.string l.toBr.key, .string l.toBr.val, .int .i64 l.toBr.at_, .slice s1 n1 c1, .string r.toBr.key, .string r.toBr.val, .int .i64 r.toBr.at_, .slice s2 n2 c2] 30)) := T3.alloc (.cells #[.string l.toBr.key, .string l.toBr.val, .int .i64 l.toBr.at_, .slice s1 n1 c1, .string r.toBr.key, .string r.toBr.val, .int .i64 r.toBr.at_, .slice s2 n2 c2] 30); have T5 := T4.trans (set4_touch (w3.alloc (.cells #[.string l.toBr.key, .string l.toBr.val, .int .i64 l.toBr.at_, .slice s1 n1 c1, .string r.toBr.key, .string r.toBr.val, .int .i64 r.toBr.at_, .slice s2 n2 c2] 30)) w.heap.size (.string ⟨#[]⟩) (.string ⟨#[]⟩) (.int .i64 a) (.slice (some ⟨w3.heap.size, 0, none⟩) 2 2)) (fun b _ e => by omega))
    | (go_at_call 72; refine (uh HL1).mono ?_; rintro e w2 ⟨s1, n1, c1, rfl, hO2, hb2'⟩; have hb2 : Below w1.heap.size w1 w2 := (below_drewN (Below.refl _ w1) 1).trans hb2'; have hb2w := (uh B1).trans (hb2.mono (uh B1).size); have T2 : Touch (fun b => w.heap.size ≤ b) w1 w2 := Touch.ofBelow hb2))
  all_goals
   have hE := uh HE w2 w3 s1 n1 c1 s2 n2 c2 hO2 hO3 hb2 hb3
   have z0 := hE.1.cell 0 rfl
   have z1 := hE.1.cell 1 rfl
   have z2 := hE.1.cell 2 rfl
   have z3 := hE.1.cell 3 rfl
   have HEN := Hd hE
   unfold set4 at z0 z1 z2 z3
   clear hE r0 r1 r2 r3 f0 f1 f2 f3 R4 T2 T3 T4 T5 hO2 hO3 hb2 hb3 hb2' hb2w x3 x4 x5 HE
   go_wp2_with fail
   refine bodyPost_ret (v := .agg #[.string ⟨#[]⟩, .string ⟨#[]⟩, .int .i64 a, .slice (some ⟨w3.heap.size, 0, none⟩) 2 2]) (by simp [results, Tryz.results72, go_sem, z0, z1, z2, z3]) rfl ?_
   exact uh HGR _ _ _ _ (uh HEN).2.1 (uh HEN).2.2
theorem branch_nil (w : World) : Calls Tryz.prog 72 #[.pointer none] w fun e w' => BranchR (brOf none) w e w' := by
 have HGR : Hid (∀ w', Below w.heap.size w w' → BranchR (brOf none) w (.returned (.agg #[.string ⟨#[]⟩, .string ⟨#[]⟩, .int .i64 0, .slice none 0 0])) w') := Hd (fun w' hb => ⟨none, 0, 0, rfl, .nil _ _ _ (by unfold maxLen; omega), hb⟩)
 have R1 := Hd (Blk.new w #[.string ⟨#[]⟩, .string ⟨#[]⟩, .int .i64 0, .slice none 0 0] 30 w.heap.size rfl)
 have B1 := Hd (bal w (.cells #[.string ⟨#[]⟩, .string ⟨#[]⟩, .int .i64 0, .slice none 0 0] 30))
 have r0 := (uh R1).cell 0 rfl
 have r1 := (uh R1).cell 1 rfl
 have r2 := (uh R1).cell 2 rfl
 have r3 := (uh R1).cell 3 rfl
 go_enter Tryz.func72, Tryz.ntmps72
 go_wp2_with fail
 refine bodyPost_ret (v := .agg #[.string ⟨#[]⟩, .string ⟨#[]⟩, .int .i64 0, .slice none 0 0]) (by simp [results, Tryz.results72, go_sem, r0, r1, r2, r3]) rfl ?_
 exact uh HGR _ (uh B1)
end Go.Proofs.YtbchnheinnileaaGreatDoor.Sha
namespace Go.Proofs.YtbchnheinnileaaGreatDoor.Sha
set_option maxRecDepth 100000
set_option maxHeartbeats 8000000
open Go.ChangeShapes Go.WideShapes Go.ChangeAt Go.RowKit Go.Shelf
set_option linter.unusedVariables false
set_option linter.unusedSimpArgs false
attribute [local go_sem] Oper.semAt_some
abbrev LfA (w0 : World) (n₀ : Nat) := { x : Nat × ByteArray × ByteArray // x.1 < n₀ ∧ w0.cell? ⟨x.1, 0, none⟩ = some (.string x.2.1) ∧ w0.cell? ⟨x.1, 1, none⟩ = some (.string x.2.2) ∧ x.2.1.size ≤ 24 ∧ x.2.2.size ≤ 60 }
inductive LT (w0 : World) (n₀ : Nat) where
 | leaf (x : LfA w0 n₀)
 | fork (a : Nat) (l r : LT w0 n₀)
def LT.list {w0 : World} {n₀ : Nat} : LT w0 n₀ → List (LfA w0 n₀)
 | .leaf x => [x]
 | .fork _ l r => l.list ++ r.list
def IsLT {w0 : World} {n₀ : Nat} (W : World) : Nat → LT w0 n₀ → Prop
 | p, .leaf x => p = x.1.1 ∧ W.cell? ⟨p, 3, none⟩ = some (.int .i64 256)
 | p, .fork a l r => p < n₀ ∧ a < 256 ∧ W.cell? ⟨p, 3, none⟩ = some (.int .i64 a) ∧ ∃ pl pr, W.cell? ⟨p, 4, none⟩ = some (.pointer (some ⟨pl, 0, none⟩)) ∧ W.cell? ⟨p, 5, none⟩ = some (.pointer (some ⟨pr, 0, none⟩)) ∧ IsLT W pl l ∧ IsLT W pr r
theorem IsLT.below {w0 A B : World} {n₀ : Nat} (h : Below n₀ A B) : ∀ {T : LT w0 n₀} {p : Nat}, IsLT A p T → IsLT B p T
 | .leaf x, p, ⟨h1, h2⟩ => ⟨h1, (h.cell (p := ⟨p, 3, none⟩) (by rw [h1]; exact x.2.1)).trans h2⟩
 | .fork a l r, p, ⟨h0, h1, h2, pl, pr, h3, h4, h5, h6⟩ => ⟨h0, h1, (h.cell (p := ⟨p, 3, none⟩) h0).trans h2, pl, pr, (h.cell (p := ⟨p, 4, none⟩) h0).trans h3, (h.cell (p := ⟨p, 5, none⟩) h0).trans h4, h5.below h, h6.below h⟩
theorem wide_room (k : Nat) : Fence.wide.room k := fun d h => by cases h
theorem yield_wide {m : Nat} (m' : Nat) {P : Program} {l : Nat} {args : Array Value} {W : World} {R : Ending → World → Prop} (h : YieldAt Fence.wide m P l args W R) : YieldAt Fence.wide m' P l args W R := by
 obtain ⟨fn, tmps, asg, bd, hy, hR⟩ := h
 exact ⟨fn, tmps, asg, bd, hy, hR.1, fun c cs _ => hR.2 c cs (wide_room _)⟩
def Tr.lvs : Tr → List (ByteArray × ByteArray)
 | .leaf k v => [(k, v)]
 | .fork _ _ l r => l.lvs ++ r.lvs
theorem lt_of_nd {w : World} {S : Nat → Prop} {p : Nat} {t : Tr} (h : Nd w S p t) : TrOK t → ∃ T : LT w w.heap.size, IsLT w p T ∧ T.list.map (fun x => x.1.2) = t.lvs := by
 induction h with
 | leaf S p k v h0 h1 => intro ho; exact ⟨.leaf ⟨(p, k, v), h1.1, h1.cell 0 rfl, h1.cell 1 rfl, (okK_iff.1 ho.1).2, ho.2⟩, ⟨rfl, h1.cell 3 rfl⟩, rfl⟩
 | fork S Sl Sr p a h l r pl pr h0 h1 h2 h3 h4 h5 h6 i1 i2 =>
  intro ho
  obtain ⟨T1, a1, b1⟩ := i1 ho.2.2.1
  obtain ⟨T2, a2, b2⟩ := i2 ho.2.2.2
  exact ⟨.fork a T1 T2, ⟨h4.1, ho.1, h4.cell 3 rfl, pl, pr, h4.cell 4 rfl, h4.cell 5 rfl, a1, a2⟩, by simp only [LT.list, List.map_append, b1, b2]; rfl⟩
theorem visit_in {w0 : World} {n₀ : Nat} (l N : Nat) (J Jx : List (LfA w0 n₀) → World → Prop)
  (hY : ∀ m pre x W, J pre W → pre.length < N → YieldAt Fence.wide m Tryz.prog l #[.pointer (some ⟨x.1.1, 0, none⟩)] W fun e W' =>
   (e = .returned (.bool true) ∧ J (pre ++ [x]) W' ∧ Below n₀ W W') ∨ (e = .returned (.bool false) ∧ Jx (pre ++ [x]) W')) (T : LT w0 n₀) :
  ∀ (n : Nat) (p : Nat) (pre : List (LfA w0 n₀)) (W : World), IsLT W p T → J pre W → pre.length + T.list.length ≤ N →
   CallsIn Fence.wide n Tryz.prog 148 #[.pointer (some ⟨p, 0, none⟩), .func (.yield l) #[] #[]] W fun e W' =>
    (e = .returned (.bool true) ∧ J (pre ++ T.list) W' ∧ Below n₀ W W') ∨ (e = .returned (.bool false) ∧ ∃ q, q <+: T.list ∧ Jx (pre ++ q) W') := by
 induction T with
 | leaf x =>
  intro n p pre W ht hJ hN
  obtain ⟨rfl, c3⟩ := ht
  obtain ⟨fn, tmps, asg, bd, hy, hR⟩ := hY (n - 1) pre x W hJ (by simp [LT.list] at hN; omega)
  refine callsIn_of_wp Tryz.func148 rfl trivial ?_ rfl
  simp only [Tryz.ntmps148, List.size_toArray, List.length_cons, List.length_nil, Nat.reduceAdd, Nat.reduceSub, Array.replicate_succ, Array.replicate_zero, List.push_toArray, List.append_toArray, List.nil_append, List.cons_append]
  gi_wp2
  refine ⟨fun h => (by cases h), ?_⟩
  refine hR.mono ?_
  rintro e W2 (⟨rfl, hJ2, hb2⟩ | ⟨rfl, hx2⟩)
  ·gi_wp2
   go_ret
   exact .inl ⟨rfl, hJ2, hb2⟩
  ·gi_wp2
   go_ret
   exact .inr ⟨rfl, [x], List.prefix_refl _, hx2⟩
 | fork a tl tr ihl ihr =>
  intro n p pre W ht hJ hN
  obtain ⟨h0, ha, c3, pl, pr, c4, c5, hl, hr⟩ := ht
  simp only [LT.list, List.length_append] at hN
  have hdd : ∀ k : Nat, (Fence.wide.depth.isSome = true → 1 ≤ k) := fun k h => by cases h
  have hab : ((a : Int) == 256) = false := by rw [beq_eq_false_iff_ne]; omega
  have ih1 := (ihl (n - 1) pl pre W hl hJ (by omega)).mono (R' := fun e W1 =>
    (e = .returned (.bool true) ∧ W1.cell? ⟨p, 5, none⟩ = some (.pointer (some ⟨pr, 0, none⟩)) ∧ J (pre ++ tl.list) W1 ∧ Below n₀ W W1 ∧ IsLT W1 pr tr) ∨
    (e = .returned (.bool false) ∧ ∃ q, q <+: tl.list ∧ Jx (pre ++ q) W1))
   (fun e W1 h => h.elim (fun ⟨he, hj, hb1⟩ => .inl ⟨he, (hb1.cell (p := ⟨p, 5, none⟩) h0).trans c5, hj, hb1, hr.below hb1⟩) .inr)
  clear ihl
  refine callsIn_of_wp Tryz.func148 rfl trivial ?_ rfl
  simp only [Tryz.ntmps148, List.size_toArray, List.length_cons, List.length_nil, Nat.reduceAdd, Nat.reduceSub, Array.replicate_succ, Array.replicate_zero, List.push_toArray, List.append_toArray, List.nil_append, List.cons_append]
  gi_wp2_with (first
   | (refine ⟨trivial, ?_⟩; (try refine ⟨hdd _, ?_⟩); gi_at_call 148; refine ih1.mono ?_; clear ih1; rintro e W1 (⟨rfl, c5', hJ1, hb1, hr1⟩ | ⟨rfl, q, hq, hx1⟩))
   | (refine ⟨trivial, ?_⟩; (try refine ⟨hdd _, ?_⟩); gi_at_call 148; refine (ihr (n - 1) pr _ _ hr1 hJ1 (by simp; omega)).mono ?_; rintro e W3 (⟨rfl, hJ3, hb3⟩ | ⟨rfl, q, hq, hx3⟩)))
  ·go_ret
   exact .inl ⟨rfl, by simpa [LT.list, List.append_assoc] using hJ3, hb1.trans hb3⟩
  ·go_ret
   obtain ⟨r, hr'⟩ := hq
   exact .inr ⟨rfl, tl.list ++ q, ⟨r, by simp [LT.list, ← hr']⟩, by simpa [List.append_assoc] using hx3⟩
  ·refine ⟨trivial, ?_⟩
   gi_wp2
   go_ret
   exact .inr ⟨rfl, q, hq.trans (by simp [LT.list]), hx1⟩
theorem visit_nil (l n : Nat) (W : World) :
  CallsIn Fence.wide n Tryz.prog 148 #[.pointer none, .func (.yield l) #[] #[]] W fun e W' => e = .returned (.bool true) ∧ W' = W := by
 refine callsIn_of_wp Tryz.func148 rfl trivial ?_ rfl
 simp only [Tryz.ntmps148, List.size_toArray, List.length_cons, List.length_nil, Nat.reduceAdd, Nat.reduceSub, Array.replicate_succ, Array.replicate_zero, List.push_toArray, List.append_toArray, List.nil_append, List.cons_append]
 gi_wp2
 go_ret
 exact ⟨rfl, rfl⟩
def IsLO {w0 : World} {n₀ : Nat} (W : World) : Option Addr → Option (LT w0 n₀) → Prop
 | pv, none => pv = none
 | pv, some T => ∃ p, pv = some ⟨p, 0, none⟩ ∧ IsLT W p T
def LO.list {w0 : World} {n₀ : Nat} : Option (LT w0 n₀) → List (LfA w0 n₀)
 | none => []
 | some T => T.list
theorem IsLO.below {w0 A B : World} {n₀ : Nat} (h : Below n₀ A B) {o : Option (LT w0 n₀)} {pv : Option Addr} (hl : IsLO A pv o) : IsLO B pv o := by
 cases o with
 | none => exact hl
 | some T => obtain ⟨p, h1, h2⟩ := hl; exact ⟨p, h1, h2.below h⟩
theorem leaves1_in {w0 : World} {n₀ : Nat} (n l Bt : Nat) (pv : Option Addr) (o : Option (LT w0 n₀)) (J Jx : List (LfA w0 n₀) → World → Prop)
  (hY : ∀ pre x W, J pre W → pre.length < (LO.list o).length → YieldAt Fence.wide (n - 1) Tryz.prog l #[.pointer (some ⟨x.1.1, 0, none⟩)] W fun e W' =>
   (e = .returned (.bool true) ∧ J (pre ++ [x]) W' ∧ Below n₀ W W') ∨ (e = .returned (.bool false) ∧ Jx (pre ++ [x]) W'))
  (W : World) (hBt : W.cell? ⟨Bt, 0, none⟩ = some (.pointer pv)) (hT : IsLO W pv o) (h0 : J [] W) :
  CallsIn Fence.wide n Tryz.prog 147 #[.func (.yield l) #[] #[], .pointer (some ⟨Bt, 0, none⟩)] W fun e W' => (∃ v, e = .returned v) ∧
   ((∃ ys, ys = LO.list o ∧ J ys W') ∨ (∃ pre, pre <+: LO.list o ∧ Jx pre W')) := by
 have hdd : ∀ k : Nat, (Fence.wide.depth.isSome = true → 1 ≤ k) := fun k h => by cases h
 cases o with
 | none =>
  obtain rfl : pv = none := hT
  have hp := visit_nil l (n - 1) W
  refine callsIn_of_wp Tryz.func147 rfl trivial ?_ rfl
  simp only [Tryz.ntmps147, List.size_toArray, List.length_cons, List.length_nil, Nat.reduceAdd, Nat.reduceSub, Array.replicate_succ, Array.replicate_zero, List.push_toArray, List.append_toArray, List.nil_append, List.cons_append]
  gi_wp2_with (refine ⟨trivial, ?_⟩; (try refine ⟨hdd _, ?_⟩); gi_at_call 148; refine hp.mono ?_; clear hp; rintro e W1 ⟨rfl, rfl⟩)
  go_end0
  exact ⟨⟨_, rfl⟩, .inl ⟨_, rfl, h0⟩⟩
 | some T =>
  obtain ⟨p, rfl, hT'⟩ := hT
  have hp := visit_in l T.list.length J Jx (fun m pre x W hj hl => yield_wide m (hY pre x W hj hl)) T (n - 1) p [] W hT' h0 (by simp)
  refine callsIn_of_wp Tryz.func147 rfl trivial ?_ rfl
  simp only [Tryz.ntmps147, List.size_toArray, List.length_cons, List.length_nil, Nat.reduceAdd, Nat.reduceSub, Array.replicate_succ, Array.replicate_zero, List.push_toArray, List.append_toArray, List.nil_append, List.cons_append]
  gi_wp2_with (refine ⟨trivial, ?_⟩; (try refine ⟨hdd _, ?_⟩); gi_at_call 148; refine hp.mono ?_; clear hp; rintro e W1 (⟨rfl, hJ1, _⟩ | ⟨rfl, q, hq, hx⟩))
  ·go_end0
   exact ⟨⟨_, rfl⟩, .inl ⟨_, rfl, by simpa [LO.list] using hJ1⟩⟩
  ·go_end0
   exact ⟨⟨_, rfl⟩, .inr ⟨q, hq, by simpa using hx⟩⟩
theorem leaves_in (n : Nat) (pv : Option Addr) (w : World) :
  CallsIn Fence.wide n Tryz.prog 137 #[.pointer pv] w fun e w' => e = .returned (.func (.func 147) #[] #[.pointer (some ⟨w.heap.size, 0, none⟩)]) ∧ w' = w.alloc (.cells #[.pointer pv] 90) := by
 refine callsIn_of_wp Tryz.func137 rfl trivial ?_ rfl
 simp only [Tryz.ntmps137, List.size_toArray, List.length_cons, List.length_nil, Nat.reduceAdd, Nat.reduceSub, Array.replicate_succ, Array.replicate_zero, List.push_toArray, List.append_toArray, List.nil_append, List.cons_append]
 gi_wp2
 go_ret
 exact ⟨rfl, rfl⟩
theorem leaves_stops {w0 : World} {n₀ : Nat} (n Bt : Nat) (pv : Option Addr) (o : Option (LT w0 n₀)) (w : World) (hBt : Bt < w.heap.size) (hn₀ : n₀ ≤ w.heap.size)
  (hc : w.cell? ⟨Bt, 0, none⟩ = some (.pointer pv)) (hT : IsLO w pv o) :
  SeqStopsK Fence.wide n Tryz.prog 147 #[.pointer (some ⟨Bt, 0, none⟩)] (fun x : LfA w0 n₀ => #[Value.pointer (some ⟨x.1.1, 0, none⟩)]) (Below n₀) (fun ys => ys = LO.list o) (fun pre => pre <+: LO.list o) (LO.list o).length w := fun l J Jx W hW _ _ hY h0 =>
 leaves1_in n l Bt pv o J Jx hY W ((hW.cell (p := ⟨Bt, 0, none⟩) hBt).trans hc) (hT.below (hW.mono hn₀)) h0
theorem box_cell (W : World) (v : Value) (t : TypeId) : (W.alloc (.cells #[v] t)).cell? ⟨W.heap.size, 0, none⟩ = some v ∧ (W.alloc (.cells #[v] t)).frozen? ⟨W.heap.size, 0, none⟩ = false :=
 have h := Blk.new W #[v] t W.heap.size rfl
 ⟨h.cell 0 rfl, h.fro 0⟩
theorem alloc_cell {W : World} {a : Addr} {v : Value} (o : Obj) (h : W.cell? a = some v) (hf : W.frozen? a = false) : (W.alloc o).cell? a = some v ∧ (W.alloc o).frozen? a = false :=
 ⟨cell_kept h (World.grownBy_alloc W o none) (fun r e => by cases e), (frozen_kept h (World.grownBy_alloc W o none) (fun r e => by cases e)).trans hf⟩
theorem size_in (n : Nat) (hn : 3 ≤ n) (pv : Option Addr) (w : World) (o : Option (LT w w.heap.size)) (hL : IsLO w pv o) (h40 : (LO.list o).length ≤ 1000) :
  CallsIn Fence.wide n Tryz.prog 127 #[.pointer pv] w fun e W' => e = .returned (.int .i64 (LO.list o).length) ∧ Below w.heap.size w W' := by
 have h1 : 1 ≤ n := by omega
 have hdd : ∀ k : Nat, (Fence.wide.depth.isSome = true → 1 ≤ k) := fun k h => by cases h
 refine callsIn_of_wp_marks Tryz.func127 rfl trivial ?_ rfl
 simp only [Tryz.ntmps127, List.size_toArray, List.length_cons, List.length_nil, Nat.reduceAdd, Nat.reduceSub, Array.replicate_succ, Array.replicate_zero, List.push_toArray, List.append_toArray, List.nil_append, List.cons_append]
 gi_wp2_with (refine ⟨trivial, ?_⟩; (try refine ⟨hdd _, ?_⟩); gi_at_call 137; refine (leaves_in (n - 1) _ _).mono ?_; rintro e w' ⟨rfl, rfl⟩)
 have hs := box_cell w (.int .i64 0) 3
 have hs2 := alloc_cell (.cells #[.pointer pv] 90) hs.1 hs.2
 have hb := box_cell (w.alloc (.cells #[.int .i64 0] 3)) (.pointer pv) 90
 rw [World.size_alloc] at hb
 have hB0 : Below w.heap.size w ((w.alloc (.cells #[.int .i64 0] 3)).alloc (.cells #[.pointer pv] 90)) := ((Below.refl _ w).alloc (Nat.le_refl _) _).alloc (by simp) _
 refine wpIn_rangeFunc_ownF rfl h1 (gf := 147) (lb := #[.pointer (some ⟨w.heap.size + 1, 0, none⟩)]) rfl trivial (enters_of Tryz.func147 (by kernel_rfl) rfl)
  (leaves_stops (n - 1) (w.heap.size + 1) pv o _ (by simp) (by simp; omega) hb.1 (hL.below hB0)) belowK_t (belowK_b (by simp; omega)) (Below.refl _ _) (fun _ => rfl)
  (fun pre W => (W.cell? ⟨w.heap.size, 0, none⟩ = some (.int .i64 pre.length) ∧ W.frozen? ⟨w.heap.size, 0, none⟩ = false) ∧ Below w.heap.size w W)
  (fun _ _ _ => False)
  (OwnFrom.and (Own.from (fun s A B row hs hg hr => ⟨cell_kept hs.1 hg hr, (frozen_kept hs.1 hg hr).trans hs.2⟩) _) (ownFrom_below (Nat.le_refl _) (by simp; omega)))
  (fun _ _ _ _ _ hs _ _ => hs)
  ⟨hs2, hB0⟩
  (fun x => { tmps := #[.pointer pv, undef, .int .i64 0, .pointer (some ⟨w.heap.size, 0, none⟩), .pointer pv, .func (.func 147) #[] #[.pointer (some ⟨w.heap.size + 1, 0, none⟩)], .pointer (some ⟨x.1.1, 0, none⟩), undef, undef, undef], defers := [] }) ?assign ?body ?done ?stop
 case assign =>
  intro l x W K hK
  gi_wp2
  first | exact hK | simpa using hK | simpa [Array.zip] using hK | (rw [List.zip_toArray]; simpa using hK)
 case body =>
  rintro l pre x W ⟨⟨hc, hf⟩, hB⟩ hlen
  have hle : pre.length + 1 ≤ 1000 := by omega
  have hw : wrap64 ((pre.length : Int) + 1) = ((pre ++ [x]).length : Int) := by unfold wrap64; simp; omega
  gi_wp2
  exact ⟨KeepsOthers.setCell _ _ _, (Below.refl w.heap.size W).setCell (p := ⟨w.heap.size, 0, none⟩) (Nat.le_refl _) _, ⟨by first | (rw [← hw]; exact World.cell?_setCell_same' _ _ _ (by rw [hc]; rfl)) | (rw [show ((pre ++ [x]).length : Int) = (pre.length : Int) + 1 by simp]; exact World.cell?_setCell_same' _ _ _ (by rw [hc]; rfl)), by rw [World.frozen?_setCell]; exact hf⟩, hB.setCell (p := ⟨w.heap.size, 0, none⟩) (Nat.le_refl _) _⟩
 case done =>
  rintro D ys W hD rfl ⟨⟨hc, _⟩, hB⟩ hK
  gi_wp2
  refine ⟨by simp, .inl ⟨_, _, rfl, run_takeDeferred hK, ?_⟩⟩
  exact ⟨_, results_tmp rfl _ _ _, rfl, hB.trans (belowK_b (w := w) (Nat.le_refl _) W D _ _ (by simp at hD; omega) hK rfl rfl)⟩
 case stop =>
  rintro D c pre W _ _ h _
  exact h.elim
theorem size_any {w : World} {S : Nat → Prop} {p : Nat} {t : Tr} (h : Nd w S p t) (ho : TrOK t) (h40 : t.lvs.length ≤ 1000) :
  Calls Tryz.prog 127 #[.pointer (some ⟨p, 0, none⟩)] w fun e w' => e = .returned (.int .i64 t.lvs.length) ∧ Below w.heap.size w w' := by
 obtain ⟨T, h1, h2⟩ := lt_of_nd h ho
 have hl : (LO.list (some T)).length = t.lvs.length := by rw [← h2]; simp [LO.list]
 have := callsIn_wide.1 (size_in 3 (Nat.le_refl _) _ w (some T) ⟨p, rfl, h1⟩ (by omega))
 rw [hl] at this
 exact this
end Go.Proofs.YtbchnheinnileaaGreatDoor.Sha
