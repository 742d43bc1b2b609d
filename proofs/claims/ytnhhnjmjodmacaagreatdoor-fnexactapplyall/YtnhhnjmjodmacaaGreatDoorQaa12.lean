/- What the proof of the claim needs (joined by program): BrPu BrWo Set4 BrO. -/
import Derived.Test.YtnhhnjmjodmacaaGreatDoorQaa11
import Derived.Test.YtnhhnjmjodmacaaGreatDoorQaa00
import Derived.Test.YtnhhnjmjodmacaaGreatDoorQaa10
import Derived.Test.YtnhhnjmjodmacaaGreatDoorQaa01
import Derived.Deep.RegionLaw
import Derived.Deep.QuietTactic
import Derived.BigQuiet
import Derived.Deep.Onto
import Derived.Deep.RegionHeld3
namespace Go.Proofs.YtnhhnjmjodmacaaGreatDoor.Sha
set_option maxRecDepth 100000
set_option maxHeartbeats 8000000
open Go.ChangeShapes Go.WideShapes Go.ChangeAt Go.RowKit
set_option linter.unusedVariables false
set_option linter.unusedSimpArgs false
def Tr.lvN : Tr → Nat
 | .leaf _ _ => 1
 | .fork _ _ l r => l.lvN + r.lvN
def Sep : Tr → Prop
 | .leaf _ _ => True
 | .fork a h l r => (∀ i, i < a → bitN h i = bitN l.hash i) ∧ fd l.hash r.hash = a ∧ bitN l.hash a = 0 ∧ Sep l ∧ Sep r
def SepO : Option Tr → Prop
 | none => True
 | some t => Sep t ∧ t.lvN ≤ 40
theorem fdF_comm (x y : ByteArray) : ∀ n i, fdF x y n i = fdF y x n i
 | 0, i => rfl
 | n + 1, i => by
  unfold fdF
  by_cases h : bitN x i = bitN y i
  ·rw [if_pos h, if_pos h.symm, fdF_comm x y n]
  ·rw [if_neg h, if_neg (fun e => h e.symm)]
theorem fd_comm (x y : ByteArray) : fd x y = fd y x := fdF_comm x y 256 0
theorem lead_alike (h : ByteArray) : ∀ (t : Tr) (m : Nat), Rise m t → Sep t → ∀ i, i < t.at_ → bitN (kh (leadL h t).1) i = bitN t.hash i
 | .leaf k v, m, hr, hs, i, hi => rfl
 | .fork a hh l r, m, hr, hs, i, hi => by
  obtain ⟨r0, r1, r2, r3⟩ := hr
  obtain ⟨s0, s1, s2, s3, s4⟩ := hs
  have hi' : i < a := hi
  have hl := r2.le
  have hrr := r3.le
  unfold leadL
  split
  ·rw [lead_alike h l _ r2 s3 i (by omega)]
   show _ = bitN hh i
   rw [s0 i hi']
  ·rw [lead_alike h r _ r3 s4 i (by omega)]
   show _ = bitN hh i
   rw [s0 i hi']
   exact (((fd_iff l.hash r.hash a r1).1 s1).1 i hi').symm
theorem lead_bit (h : ByteArray) {a : Nat} {hh : ByteArray} {l r : Tr} {m : Nat} (hr : Rise m (.fork a hh l r)) (hs : Sep (.fork a hh l r)) : bitN (kh (leadL h (.fork a hh l r)).1) a = bitN h a := by
 obtain ⟨r0, r1, r2, r3⟩ := hr
 obtain ⟨s0, s1, s2, s3, s4⟩ := hs
 have hl := r2.le
 have hrr := r3.le
 unfold leadL
 split
 ·rename_i hb
  rw [lead_alike h l _ r2 s3 a (by omega), s2, hb]
 ·rename_i hb
  rw [lead_alike h r _ r3 s4 a (by omega)]
  have h1 := ((fd_iff l.hash r.hash a r1).1 s1).2
  rcases bitN_01 r.hash a with e | e
  ·exact absurd (s2.trans e.symm) h1
  ·rcases bitN_01 h a with e' | e'
   ·exact absurd e' hb
   ·rw [e, e']
def forkT (a : Nat) (h k v : ByteArray) (t : Tr) : Tr := if bitN h a = 0 then .fork a h (.leaf k v) t else .fork a h t (.leaf k v)
def putT (h : ByteArray) (at_ : Nat) (k v : ByteArray) : Tr → Tr
 | .leaf k' v' => if at_ = 256 then .leaf k v else forkT at_ h k v (.leaf k' v')
 | .fork a hh l r => if a < at_ then (if bitN h a = 0 then .fork a hh (putT h at_ k v l) r else .fork a hh l (putT h at_ k v r)) else forkT at_ h k v (.fork a hh l r)
theorem forkT_ok {a : Nat} {h k v : ByteArray} {t : Tr} (ha : a < 256) (hh : h.size = 32) (hk : okK k = true) (hv : v.size ≤ 60) (ht : TrOK t) : TrOK (forkT a h k v t) := by
 unfold forkT; split
 ·exact ⟨ha, hh, ⟨hk, hv⟩, ht⟩
 ·exact ⟨ha, hh, ht, ⟨hk, hv⟩⟩
theorem putT_ok (h : ByteArray) (a : Nat) (k v : ByteArray) (ha : a ≤ 256) (hh : h.size = 32) (hk : okK k = true) (hv : v.size ≤ 60) : ∀ t, TrOK t → TrOK (putT h a k v t)
 | .leaf k' v', ho => by
  unfold putT; split
  ·exact ⟨hk, hv⟩
  ·exact forkT_ok (by omega) hh hk hv ho
 | .fork b hb l r, ho => by
  unfold putT; split
  ·split
   ·exact ⟨ho.1, ho.2.1, putT_ok h a k v ha hh hk hv l ho.2.2.1, ho.2.2.2⟩
   ·exact ⟨ho.1, ho.2.1, ho.2.2.1, putT_ok h a k v ha hh hk hv r ho.2.2.2⟩
  ·exact forkT_ok (by have := ho.1; omega) hh hk hv ho
def WithR (S : Nat → Prop) (q : Nat) (t : Tr) (w : World) (e : Ending) (w' : World) : Prop := ∃ p, e = .returned (.pointer (some ⟨p, 0, none⟩)) ∧ Nd w' (fun b => S b ∨ b = q ∨ (w.heap.size ≤ b ∧ b < w'.heap.size)) p t ∧ Touch S w w'
theorem newFork_nd {w : World} {S : Nat → Prop} {p q a : Nat} {t : Tr} {k v : ByteArray} (hn : Nd w S p t) (ho : t.hash.size = 32) (hS : ∀ b, S b → b < w.heap.size) (hq : Blk w q (lfC k v)) (hqS : ¬ S q) (hk : k.size ≤ 65536) (ha : a < 256) (hxy : bitN (kh k) a ≠ bitN t.hash a) :
  Calls Tryz.prog 115 #[.int .i64 a, .pointer (some ⟨q, 0, none⟩), .pointer (some ⟨p, 0, none⟩)] w fun e w' => WithR S q (forkT a (kh k) k v t) w e w' := by
 refine (newFork_any a q p (kh k) t.hash w ha (kh_size hk) ho hxy hq.1 hn.here.2 (hq.cell 2 rfl) hn.hashC).mono ?_
 rintro e w' ⟨f, rfl, hf, hB, hb⟩
 have hq' := hq.1
 have hnq := hq.below hb
 have hnn := hn.blw hb
 refine ⟨f, rfl, ?_, Touch.ofBelow hb⟩
 have hfl := hB.1
 unfold forkT
 unfold kidsV at hB
 by_cases hb0 : bitN (kh k) a = 0
 ·rw [if_pos hb0] at hB ⊢
  exact .fork _ (fun b => b = q) S f a (kh k) (.leaf k v) t q p (.inr (.inr ⟨hf, hfl⟩)) (fun b e => ⟨.inr (.inl e), by omega⟩) (fun b e => ⟨.inl e, by have := hS b e; omega⟩) (fun b e h => hqS (e ▸ h)) hB (.leaf _ q k v rfl hnq) hnn
 ·rw [if_neg hb0] at hB ⊢
  exact .fork _ S (fun b => b = q) f a (kh k) t (.leaf k v) p q (.inr (.inr ⟨hf, hfl⟩)) (fun b e => ⟨.inl e, by have := hS b e; omega⟩) (fun b e => ⟨.inr (.inl e), by omega⟩) (fun b e h => hqS (h ▸ e)) hB hnn (.leaf _ q k v rfl hnq)
theorem hash_of_ok {t : Tr} (h : TrOK t) : t.hash.size = 32 := by
 cases t with
 | leaf k v => exact kh_size (by have := (okK_iff.1 h.1).2; omega)
 | fork a hh l r => exact h.2.1
def dropT (h : ByteArray) : Tr → Option Tr
 | .leaf _ _ => none
 | .fork a hh l r => if bitN h a = 0 then (match dropT h l with | none => some r | some l' => some (.fork a hh l' r)) else (match dropT h r with | none => some l | some r' => some (.fork a hh l r'))
theorem dropT_ok (h : ByteArray) : ∀ (t : Tr), TrOK t → OkO (dropT h t)
 | .leaf _ _, ho => trivial
 | .fork a hh l r, ho => by
  have h1 := dropT_ok h l ho.2.2.1
  have h2 := dropT_ok h r ho.2.2.2
  unfold dropT
  split
  ·cases he : dropT h l with
   | none => exact ho.2.2.2
   | some l' => rw [he] at h1; exact ⟨ho.1, ho.2.1, h1, ho.2.2.2⟩
  ·cases he : dropT h r with
   | none => exact ho.2.2.1
   | some r' => rw [he] at h2; exact ⟨ho.1, ho.2.1, ho.2.2.1, h2⟩
def DropR (S : Nat → Prop) (o : Option Tr) (w : World) (e : Ending) (w' : World) : Prop := ∃ pv, e = .returned (.pointer pv) ∧ PtrM w' S pv o ∧ Touch S w w'
theorem without_any (h : ByteArray) (hh : h.size = 32) : ∀ (t : Tr) (m : Nat) (w : World) (S : Nat → Prop) (p : Nat), Nd w S p t → Rise m t →
  Calls Tryz.prog 133 #[.pointer (some ⟨p, 0, none⟩), .string h] w fun e w' => DropR S (dropT h t) w e w' := by
 intro t
 induction t with
 | leaf k v =>
  intro m w S p hn hr
  cases hn with
  | leaf S p k v h0 h1 =>
   have x3 := h1.cell 3 rfl
   have HG : Hid (DropR S (dropT h (.leaf k v)) w (.returned (.pointer none)) w) := Hd ⟨none, rfl, rfl, Touch.refl _ _⟩
   clear h1 hr
   go_enter Tryz.func133, Tryz.ntmps133
   go_wp2_with fail
   go_ret
   exact uh HG
 | fork a hv l r ihl ihr =>
  intro m w S p hn hr
  cases hn with
  | fork S Sl Sr p a hv l r pl pr h0 h1 h2 h3 h4 h5 h6 =>
   obtain ⟨r0, r1, r2, r3⟩ := hr
   have X := Hd h4
   have x3 := h4.cell 3 rfl
   have x4 := h4.cell 4 rfl
   have x5 := h4.cell 5 rfl
   have HB := Hd (fun wx => hashBit_any h a wx hh r1)
   have hab : ((a : Int) == 256) = false := by rw [beq_eq_false_iff_ne]; omega
   have HN5 := Hd h5
   have HN6 := Hd h6
   have HS := Hd (And.intro h0 (And.intro h1 (And.intro h2 h3)))
   clear h1 h2 h3 h4 h5 h6 h0
   rcases bitN_01 h a with hb | hb
   ·have HC := Hd (ihl _ w Sl pl (uh HN5) r2)
    have HD : Hid (dropT h (.fork a hv l r) = match dropT h l with | none => some r | some l' => some (.fork a hv l' r)) := Hd (by conv => lhs; unfold dropT; rw [if_pos hb])
    rw [hb] at HB
    have hwr : IntKind.i64.wrap (1 : Int) = 1 := by decide
    clear ihl ihr
    generalize dropT h (.fork a hv l r) = D at *
    generalize dropT h l = d at *
    go_enter Tryz.func133, Tryz.ntmps133
    go_wp2_with fail
    refine (uh HB w).mono ?_
    rintro e w9 ⟨rfl, hw9⟩
    subst w9
    go_wp2_with fail
    refine (uh HC).mono ?_
    rintro e w2 ⟨pv, rfl, hp, hT⟩
    have X2 := (uh X).kept hT (fun e => ((uh HS).2.1 p e).2 rfl)
    have NO2 := (uh HN6).touch hT (fun b hb e => (uh HS).2.2.2 b e hb)
    have TS : Touch S w w2 := (Touch.refl S w).trans hT (fun b _ e => ((uh HS).2.1 b e).1)
    have y5 := X2.cell 5 rfl
    have y4 := X2.cell 4 rfl
    have g4 := X2.fro 4
    have HD2 := Hd (uh HD)
    clear x3 x4 x5 HC
    cases d with
    | none =>
     obtain rfl : pv = none := hp
     have HF : Hid (DropR S D w (.returned (.pointer (some ⟨pr, 0, none⟩))) w2) := Hd ⟨_, rfl, by rw [show D = some r from uh HD]; exact ⟨pr, rfl, NO2.mono (fun b hb => ((uh HS).2.2.1 b hb).1)⟩, TS⟩
     clear NO2 TS X2 hT
     go_wp2_with fail
     go_ret
     exact uh HF
    | some d' =>
     obtain ⟨q, rfl, hq⟩ := hp
     have HF : Hid (DropR S D w (.returned (.pointer (some ⟨p, 0, none⟩))) (w2.setCell ⟨p, 4, none⟩ (.pointer (some ⟨q, 0, none⟩)))) := Hd (by
      have XS := X2.set 4 (.pointer (some ⟨q, 0, none⟩)) (by simp [fkC])
      have tp := (Touch.refl (fun b => b = p) w2).setCell ⟨p, 4, none⟩ (.pointer (some ⟨q, 0, none⟩)) (fun _ => rfl)
      have NK := hq.touch tp (fun b hb e => ((uh HS).2.1 b hb).2 e)
      have NO := NO2.touch tp (fun b hb e => ((uh HS).2.2.1 b hb).2 e)
      refine ⟨_, rfl, ?_, TS.trans tp (fun b _ e => by rw [e]; exact (uh HS).1)⟩
      rw [show D = some (.fork a hv d' r) from uh HD]
      exact ⟨p, rfl, .fork S Sl Sr p a hv d' r q pr (uh HS).1 (uh HS).2.1 (uh HS).2.2.1 (uh HS).2.2.2 XS NK NO⟩)
     clear hq NO2 TS X2 hT
     go_wp2_with fail
     go_ret
     exact uh HF
   ·have HC := Hd (ihr _ w Sr pr (uh HN6) r3)
    have HD : Hid (dropT h (.fork a hv l r) = match dropT h r with | none => some l | some r' => some (.fork a hv l r')) := Hd (by conv => lhs; unfold dropT; rw [if_neg (by omega)])
    rw [hb] at HB
    have hwr : IntKind.i64.wrap (0 : Int) = 0 := by decide
    clear ihl ihr
    generalize dropT h (.fork a hv l r) = D at *
    generalize dropT h r = d at *
    go_enter Tryz.func133, Tryz.ntmps133
    go_wp2_with fail
    refine (uh HB w).mono ?_
    rintro e w9 ⟨rfl, hw9⟩
    subst w9
    go_wp2_with fail
    refine (uh HC).mono ?_
    rintro e w2 ⟨pv, rfl, hp, hT⟩
    have X2 := (uh X).kept hT (fun e => ((uh HS).2.2.1 p e).2 rfl)
    have NO2 := (uh HN5).touch hT (fun b hb e => (uh HS).2.2.2 b hb e)
    have TS : Touch S w w2 := (Touch.refl S w).trans hT (fun b _ e => ((uh HS).2.2.1 b e).1)
    have y4 := X2.cell 4 rfl
    have y5 := X2.cell 5 rfl
    have g5 := X2.fro 5
    have HD2 := Hd (uh HD)
    clear x3 x4 x5 HC
    cases d with
    | none =>
     obtain rfl : pv = none := hp
     have HF : Hid (DropR S D w (.returned (.pointer (some ⟨pl, 0, none⟩))) w2) := Hd ⟨_, rfl, by rw [show D = some l from uh HD]; exact ⟨pl, rfl, NO2.mono (fun b hb => ((uh HS).2.1 b hb).1)⟩, TS⟩
     clear NO2 TS X2 hT
     go_wp2_with fail
     go_ret
     exact uh HF
    | some d' =>
     obtain ⟨q, rfl, hq⟩ := hp
     have HF : Hid (DropR S D w (.returned (.pointer (some ⟨p, 0, none⟩))) (w2.setCell ⟨p, 5, none⟩ (.pointer (some ⟨q, 0, none⟩)))) := Hd (by
      have XS := X2.set 5 (.pointer (some ⟨q, 0, none⟩)) (by simp [fkC])
      have tp := (Touch.refl (fun b => b = p) w2).setCell ⟨p, 5, none⟩ (.pointer (some ⟨q, 0, none⟩)) (fun _ => rfl)
      have NK := hq.touch tp (fun b hb e => ((uh HS).2.2.1 b hb).2 e)
      have NO := NO2.touch tp (fun b hb e => ((uh HS).2.1 b hb).2 e)
      refine ⟨_, rfl, ?_, TS.trans tp (fun b _ e => by rw [e]; exact (uh HS).1)⟩
      rw [show D = some (.fork a hv l d') from uh HD]
      exact ⟨p, rfl, .fork S Sl Sr p a hv l d' pl q (uh HS).1 (uh HS).2.1 (uh HS).2.2.1 (uh HS).2.2.2 XS NO NK⟩)
     clear hq NO2 TS X2 hT
     go_wp2_with fail
     go_ret
     exact uh HF
end Go.Proofs.YtnhhnjmjodmacaaGreatDoor.Sha
namespace Go.Proofs.YtnhhnjmjodmacaaGreatDoor.Sha
set_option maxRecDepth 100000
set_option maxHeartbeats 8000000
open Go.ChangeShapes Go.WideShapes Go.ChangeAt Go.RowKit
set_option linter.unusedVariables false
def set4 (w : World) (R : Nat) (a b c d : Value) : World := (((w.setCell ⟨R, 0, none⟩ a).setCell ⟨R, 1, none⟩ b).setCell ⟨R, 2, none⟩ c).setCell ⟨R, 3, none⟩ d
theorem set4_touch (w : World) (R : Nat) (a b c d : Value) : Touch (fun x => x = R) w (set4 w R a b c d) :=
 ((((Touch.refl (fun x => x = R) w).setCell ⟨R, 0, none⟩ a (fun _ => rfl)).setCell ⟨R, 1, none⟩ b (fun _ => rfl)).setCell ⟨R, 2, none⟩ c (fun _ => rfl)).setCell ⟨R, 3, none⟩ d (fun _ => rfl)
theorem set4_blk {w : World} {R : Nat} {x0 x1 x2 x3 : Value} (h : Blk w R [x0, x1, x2, x3]) (a b c d : Value) : Blk (set4 w R a b c d) R [a, b, c, d] :=
 (((h.set 0 a (by simp)).set 1 b (by simp)).set 2 c (by simp)).set 3 d (by simp)
def RowIs (xs : List Value) (l : List Br) (kv : Nat → Value) (k : Nat) : Prop :=
 ∀ i, i < k → xs[i * 4]? = some (.string (l.getD i default).key) ∧ xs[i * 4 + 1]? = some (.string (l.getD i default).val) ∧ xs[i * 4 + 2]? = some (.int .i64 (l.getD i default).at_) ∧ xs[i * 4 + 3]? = some (kv i)
inductive BrO (w : World) : (Nat → Prop) → Value → List Br → Prop
 | nil (S : Nat → Prop) (a : Option Addr) (cap : Nat) : cap ≤ maxLen → BrO w S (.slice a 0 cap) []
 | row (S : Nat → Prop) (g cap : Nat) (l : List Br) (kv : Nat → Value) (xs : List Value) (Si : Nat → Nat → Prop) : 0 < l.length → S g →
   w.ownsRow 0 35 4 (.slice (some ⟨g, 0, none⟩) l.length cap) l.length xs → RowIs xs l kv l.length →
   (∀ i, i < l.length → (l.getD i default).key.size ≤ maxLen ∧ (l.getD i default).val.size ≤ maxLen) →
   (∀ i b, i < l.length → Si i b → S b ∧ b ≠ g) →
   (∀ i j b, i < j → j < l.length → Si i b → ¬ Si j b) →
   (∀ i, i < l.length → BrO w (Si i) (kv i) (l.getD i default).kids) →
   BrO w S (.slice (some ⟨g, 0, none⟩) l.length cap) l
theorem BrO.brs {w : World} {S : Nat → Prop} {v : Value} {l : List Br} (h : BrO w S v l) : Brs S w v l := by
 induction h with
 | nil S a cap hc => exact .nil a cap hc
 | row S g cap l kv xs Si h0 h1 h2 h3 h4 h5 h6 h7 ih =>
  obtain ⟨hl, hc⟩ := id h2
  rcases hc with ⟨hx, _⟩ | ⟨g', cap', cur, hv, hb, hg, hn, hm, hz, ht⟩
  ·cases hx
  ·simp only [Value.slice.injEq, Option.some.injEq, Addr.mk.injEq] at hv
   obtain ⟨⟨rfl, _, _⟩, _, rfl⟩ := hv
   refine .row g 0 cap l kv h0 hn hm (Array.getElem?_eq_some_iff.1 hg).1 h1 (fun i hi => ?_) h4 (fun i hi => (ih i hi).mono (fun b hb => (h5 i b hi hb).1))
   obtain ⟨e0, e1, e2, e3⟩ := h3 i hi
   rw [Nat.zero_add]
   exact ⟨(h2.cellAt _ (by omega)).trans e0, (h2.cellAt _ (by omega)).trans e1, (h2.cellAt _ (by omega)).trans e2, (h2.cellAt _ (by omega)).trans e3⟩
theorem BrO.touch {w w' : World} {S T : Nat → Prop} {v : Value} {l : List Br} (h : BrO w S v l) (ht : Touch T w w') (hn : ∀ k, S k → ¬ T k) : BrO w' S v l := by
 induction h with
 | nil S a cap hc => exact .nil S a cap hc
 | row S g cap l kv xs Si h0 h1 h2 h3 h4 h5 h6 h7 ih =>
  exact .row S g cap l kv xs Si h0 h1 (own_kept h2 ht (fun k hk => by cases hk; exact hn g h1)) h3 h4 h5 h6 (fun i hi => ih i hi (fun k hk => hn k (h5 i k hi hk).1))
theorem BrO.blw {w w' : World} {S : Nat → Prop} {v : Value} {l : List Br} (h : BrO w S v l) (hb : Below w.heap.size w w') : BrO w' S v l := h.touch (T := fun _ => False) (Touch.ofBelow hb) (fun _ _ h => h)
theorem BrO.mono {w : World} {S T : Nat → Prop} {v : Value} {l : List Br} (h : BrO w S v l) (hst : ∀ k, S k → T k) : BrO w T v l := by
 cases h with
 | nil S a cap hc => exact .nil T a cap hc
 | row S g cap l kv xs Si h0 h1 h2 h3 h4 h5 h6 h7 => exact .row T g cap l kv xs Si h0 (hst g h1) h2 h3 h4 (fun i b hi hb => ⟨hst b (h5 i b hi hb).1, (h5 i b hi hb).2⟩) h6 h7
theorem BrO.shape {w : World} {S : Nat → Prop} {v : Value} {l : List Br} (h : BrO w S v l) : ∃ a cap, v = .slice a l.length cap ∧ l.length ≤ cap ∧ cap ≤ maxLen := h.brs.shape
theorem infoBr : (Tryz.prog.info? 35).map (fun i => (i.zero, i.size, i.bytes)) = some (some (.agg #[.string ⟨#[]⟩, .string ⟨#[]⟩, .int .i64 0, .slice none 0 0]), 4, 64) := by kernel_rfl

end Go.Proofs.YtnhhnjmjodmacaaGreatDoor.Sha
