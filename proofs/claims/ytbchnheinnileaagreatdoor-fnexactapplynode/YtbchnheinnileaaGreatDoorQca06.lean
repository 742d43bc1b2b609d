/- What the proof of the claim needs (joined by program): BrPw BrPt BrPr BrW. -/
import Derived.Test.YtbchnheinnileaaGreatDoorQca05
import Derived.Test.YtbchnheinnileaaGreatDoorQca04
import Derived.Deep.DeepCutAuto
import Derived.Deep.RegionHeldLaw
import Derived.Deep.RegionLaw
namespace Go.Proofs.YtbchnheinnileaaGreatDoor.Sha
set_option maxRecDepth 100000
set_option maxHeartbeats 8000000
open Go.ChangeShapes Go.WideShapes Go.ChangeAt Go.RowKit
set_option linter.unusedVariables false
set_option linter.unusedSimpArgs false
theorem with_end0 {w w1 w2 : World} {S Sl Sr : Nat → Prop} {p q a pr p' : Nat} {hv : ByteArray} {l' r : Tr} (hw : Below w.heap.size w w1) (hsz : w1.heap.size = w.heap.size) (hp : S p) (h1 : ∀ b, Sl b → S b ∧ b ≠ p) (h2 : ∀ b, Sr b → S b ∧ b ≠ p) (h3 : ∀ b, Sl b → ¬ Sr b) (hS : ∀ b, S b → b < w.heap.size) (hqS : ¬ S q)
  {pl : Nat} (X : Blk w1 p (fkC hv a pl pr)) (hr : Nd w1 Sr pr r) (hn : Nd w2 (fun b => Sl b ∨ b = q ∨ (w1.heap.size ≤ b ∧ b < w2.heap.size)) p' l') (hT : Touch Sl w1 w2) :
  WithR S q (.fork a hv l' r) w (.returned (.pointer (some ⟨p, 0, none⟩))) (w2.setCell ⟨p, 4, none⟩ (.pointer (some ⟨p', 0, none⟩))) := by
 have X2 := X.kept hT (fun e => (h1 p e).2 rfl)
 have XS := X2.set 4 (.pointer (some ⟨p', 0, none⟩)) (by simp [fkC])
 have tp := (Touch.refl (fun b => b = p) w2).setCell ⟨p, 4, none⟩ (.pointer (some ⟨p', 0, none⟩)) (fun _ => rfl)
 have hts := tp.size
 have hps := hS p hp
 have NK := hn.touch tp (fun b hb e => by
  rcases hb with hb | hb | hb
  ·exact (h1 b hb).2 e
  ·exact hqS (by rw [← hb, e]; exact hp)
  ·omega)
 have NO := (hr.touch hT (fun b hb e => h3 b e hb)).touch tp (fun b hb e => (h2 b hb).2 e)
 refine ⟨p, rfl, .fork _ (fun b => Sl b ∨ b = q ∨ (w1.heap.size ≤ b ∧ b < w2.heap.size)) Sr p a hv l' r p' pr (.inl hp) (fun b hb => ?_) (fun b hb => ⟨.inl (h2 b hb).1, (h2 b hb).2⟩) (fun b hb hr' => ?_) XS NK NO, ?_⟩
 ·rcases hb with hb | hb | hb
  ·exact ⟨.inl (h1 b hb).1, (h1 b hb).2⟩
  ·exact ⟨.inr (.inl hb), fun e => hqS (by rw [← hb, e]; exact hp)⟩
  ·exact ⟨.inr (.inr ⟨by omega, by omega⟩), by omega⟩
 ·rcases hb with hb | hb | hb
  ·exact h3 b hb hr'
  ·exact hqS (by rw [← hb]; exact (h2 b hr').1)
  ·have := hS b (h2 b hr').1
   omega
 ·exact ((Touch.ofBelow (T := S) hw).trans hT (fun b _ e => (h1 b e).1)).trans tp (fun b _ e => by rw [e]; exact hp)
theorem with_end1 {w w1 w2 : World} {S Sl Sr : Nat → Prop} {p q a pl p' : Nat} {hv : ByteArray} {l r' : Tr} (hw : Below w.heap.size w w1) (hsz : w1.heap.size = w.heap.size) (hp : S p) (h1 : ∀ b, Sl b → S b ∧ b ≠ p) (h2 : ∀ b, Sr b → S b ∧ b ≠ p) (h3 : ∀ b, Sl b → ¬ Sr b) (hS : ∀ b, S b → b < w.heap.size) (hqS : ¬ S q)
  {pr : Nat} (X : Blk w1 p (fkC hv a pl pr)) (hl : Nd w1 Sl pl l) (hn : Nd w2 (fun b => Sr b ∨ b = q ∨ (w1.heap.size ≤ b ∧ b < w2.heap.size)) p' r') (hT : Touch Sr w1 w2) :
  WithR S q (.fork a hv l r') w (.returned (.pointer (some ⟨p, 0, none⟩))) (w2.setCell ⟨p, 5, none⟩ (.pointer (some ⟨p', 0, none⟩))) := by
 have X2 := X.kept hT (fun e => (h2 p e).2 rfl)
 have XS := X2.set 5 (.pointer (some ⟨p', 0, none⟩)) (by simp [fkC])
 have tp := (Touch.refl (fun b => b = p) w2).setCell ⟨p, 5, none⟩ (.pointer (some ⟨p', 0, none⟩)) (fun _ => rfl)
 have hts := tp.size
 have hps := hS p hp
 have NK := hn.touch tp (fun b hb e => by
  rcases hb with hb | hb | hb
  ·exact (h2 b hb).2 e
  ·exact hqS (by rw [← hb, e]; exact hp)
  ·omega)
 have NO := (hl.touch hT (fun b hb e => h3 b hb e)).touch tp (fun b hb e => (h1 b hb).2 e)
 refine ⟨p, rfl, .fork _ Sl (fun b => Sr b ∨ b = q ∨ (w1.heap.size ≤ b ∧ b < w2.heap.size)) p a hv l r' pl p' (.inl hp) (fun b hb => ⟨.inl (h1 b hb).1, (h1 b hb).2⟩) (fun b hb => ?_) (fun b hl' hb => ?_) XS NO NK, ?_⟩
 ·rcases hb with hb | hb | hb
  ·exact ⟨.inl (h2 b hb).1, (h2 b hb).2⟩
  ·exact ⟨.inr (.inl hb), fun e => hqS (by rw [← hb, e]; exact hp)⟩
  ·exact ⟨.inr (.inr ⟨by omega, by omega⟩), by omega⟩
 ·rcases hb with hb | hb | hb
  ·exact h3 b hl' hb
  ·exact hqS (by rw [← hb]; exact (h1 b hl').1)
  ·have := hS b (h1 b hl').1
   omega
 ·exact ((Touch.ofBelow (T := S) hw).trans hT (fun b _ e => (h2 b e).1)).trans tp (fun b _ e => by rw [e]; exact hp)
theorem with_any (k v : ByteArray) (at_ : Nat) (hat : at_ ≤ 256) (hk : k.size ≤ 65536) : ∀ (t : Tr) (m : Nat) (w : World) (S : Nat → Prop) (p q : Nat), Nd w S p t → Rise m t → Sep t → TrOK t → (∀ b, S b → b < w.heap.size) → Blk w q (lfC k v) → ¬ S q → at_ = fd (kh (leadL (kh k) t).1) (kh k) →
  Calls Tryz.prog 133 #[.pointer (some ⟨p, 0, none⟩), .pointer (some ⟨q, 0, none⟩), .int .i64 at_] w fun e w' => WithR S q (putT (kh k) at_ k v t) w e w' := by
 intro t
 induction t with
 | leaf k' v' =>
  intro m w S p q hn hr hs ho hS hq hqS hfd
  have HNF := Hd (fun (ha : at_ < 256) => newFork_nd (a := at_) hn (hash_of_ok ho) hS hq hqS hk ha (by
   have h1 := ((fd_iff (kh (leadL (kh k) (.leaf k' v')).1) (kh k) at_ ha).1 hfd.symm).2
   exact fun e => h1 e.symm))
  cases hn with
  | leaf S p k' v' h0 h1 =>
   have x3 := h1.cell 3 rfl
   by_cases h256 : at_ = 256
   ·have HG : Hid (WithR S q (putT (kh k) at_ k v (.leaf k' v')) w (.returned (.pointer (some ⟨q, 0, none⟩))) w) := Hd (by
     unfold putT
     rw [if_pos h256]
     exact ⟨q, rfl, .leaf _ q k v (.inr (.inl rfl)) hq, Touch.refl _ _⟩)
    subst h256
    clear h1 hr hs ho hq hfd HNF
    go_enter Tryz.func133, Tryz.ntmps133
    go_wp2_with fail
    go_ret
    exact uh HG
   ·have HF := Hd (uh HNF (by omega))
    have HP : Hid (putT (kh k) at_ k v (.leaf k' v') = forkT at_ (kh k) k v (.leaf k' v')) := Hd (by conv => lhs; unfold putT; rw [if_neg h256])
    have hb1 : ¬ (256 : Int) < (at_ : Int) := by omega
    have hb2 : ((at_ : Int) == 256) = false := by rw [beq_eq_false_iff_ne]; omega
    clear h1 hr hs ho hq hfd HNF
    generalize forkT at_ (kh k) k v (.leaf k' v') = R at *
    go_enter Tryz.func133, Tryz.ntmps133
    go_wp2_with fail
    refine (uh HF).mono ?_
    rintro e w2 ⟨p2, rfl, h2⟩
    have HG : Hid (WithR S q (putT (kh k) at_ k v (.leaf k' v')) w (.returned (.pointer (some ⟨p2, 0, none⟩))) w2) := Hd (by rw [uh HP]; exact ⟨p2, rfl, h2⟩)
    clear h2
    go_wp2_with fail
    go_ret
    exact uh HG
 | fork a hv l r ihl ihr =>
  intro m w S p q hn hr hs ho hS hq hqS hfd
  have hbit := lead_bit (kh k) hr hs
  have HNF := Hd (fun (ha : at_ < a) => newFork_nd (a := at_) hn (hash_of_ok ho) hS hq hqS hk (by have := hr.2.1; omega) (by
   have h1 := ((fd_iff (kh (leadL (kh k) (.fork a hv l r)).1) (kh k) at_ (by have := hr.2.1; omega)).1 hfd.symm).2
   have h2 := lead_alike (kh k) (.fork a hv l r) m hr hs at_ ha
   exact fun e => h1 (h2.trans e.symm)))
  have hne : at_ ≠ a := fun e => by
   have h1 := ((fd_iff (kh (leadL (kh k) (.fork a hv l r)).1) (kh k) at_ (by have := hr.2.1; omega)).1 hfd.symm).2
   rw [e] at h1
   exact h1 hbit
  cases hn with
  | fork S Sl Sr p a hv l r pl pr h0 h1 h2 h3 h4 h5 h6 =>
   have x3 := h4.cell 3 rfl
   obtain ⟨r0, r1, r2, r3⟩ := hr
   by_cases hlt : a < at_
   ·have X := Hd h4
    have x4 := h4.cell 4 rfl
    have x5 := h4.cell 5 rfl
    have q2 := hq.cell 2 rfl
    have hlt' : (a : Int) < (at_ : Int) := by omega
    have HB := Hd (fun wx => hashBit_any (kh k) a wx (kh_size hk) r1)
    have HS := Hd (And.intro h0 (And.intro h1 (And.intro h2 (And.intro h3 (And.intro hS hqS)))))
    have HQ := Hd hq
    have HN5 := Hd h5
    have HN6 := Hd h6
    obtain ⟨s0, s1, s2, s3, s4⟩ := hs
    obtain ⟨o0, o1, o2, o3⟩ := ho
    rcases bitN_01 (kh k) a with hb | hb
    ·have HP : Hid (putT (kh k) at_ k v (.fork a hv l r) = .fork a hv (putT (kh k) at_ k v l) r) := Hd (by conv => lhs; unfold putT; rw [if_pos hlt, if_pos hb])
     have hfl : at_ = fd (kh (leadL (kh k) l).1) (kh k) := by rw [hfd]; conv => lhs; unfold leadL; rw [if_pos hb]
     have HC : Hid (∀ wx, Below w.heap.size w wx → wx.heap.size = w.heap.size → Calls Tryz.prog 133 #[.pointer (some ⟨pl, 0, none⟩), .pointer (some ⟨q, 0, none⟩), .int .i64 at_] wx fun e w' => WithR Sl q (putT (kh k) at_ k v l) wx e w') := Hd (fun wx hbx hsx => ihl _ wx Sl pl q ((uh HN5).blw hbx) r2 s3 o2 (fun b hb => by rw [hsx]; exact hS b (h1 b hb).1) ((uh HQ).below hbx) (fun e => hqS (h1 q e).1) hfl)
     rw [hb] at HB
     clear h1 h2 h3 h4 h5 h6 h0 hS hqS hq hbit HNF hne hfd hfl ihl ihr s0 s1 s2 s3 s4 o0 o1 o2 o3 r0 r2 r3
     generalize putT (kh k) at_ k v l = D at *
     generalize putT (kh k) at_ k v (.fork a hv l r) = R at *
     generalize kh k = hh at *
     go_enter Tryz.func133, Tryz.ntmps133
     go_wp2_with fail
     go_quiet ((go_at_call 128; exact Calls.quiet_of_same (uh HB _)))
     have BD := Hd (below_drewN (Below.refl w.heap.size w) nq)
     have X1 := (uh X).below (uh BD)
     have y4 := X1.cell 4 rfl
     have g4 := X1.fro 4
     have HX1 := Hd X1
     have HE : Hid ((w.drewN nq).heap.size = w.heap.size) := rfl
     clear x3 x4 x5 q2 X1
     generalize w.drewN nq = w1 at *
     go_wp2_with fail
     go_region_law ((go_simp; go_at_call 133; refine (uh HC _ (below_drewN (uh BD) 1) (uh HE)).mono ?_; rintro e w2 ⟨p2, rfl, hn2, hT2⟩; (have X2 := ((uh HX1).drewN 1).kept hT2 (fun e => ((uh HS).2.1 p e).2 rfl)); (have z4 := X2.cell 4 rfl); (have h4 := X2.fro 4); go_simp))
     all_goals
      have HG := Hd (with_end0 (q := q) (below_drewN (uh BD) 1) (uh HE) (uh HS).1 (uh HS).2.1 (uh HS).2.2.1 (uh HS).2.2.2.1 (uh HS).2.2.2.2.1 (uh HS).2.2.2.2.2 ((uh HX1).drewN 1) ((uh HN6).blw (below_drewN (uh BD) 1)) hn2 hT2)
      rw [← uh HP] at HG
      clear hn2 hT2 X2 z4 h4
      go_wp2_with fail
      go_ret
      exact uh HG
    ·have HP : Hid (putT (kh k) at_ k v (.fork a hv l r) = .fork a hv l (putT (kh k) at_ k v r)) := Hd (by conv => lhs; unfold putT; rw [if_pos hlt, if_neg (by omega)])
     have hfl : at_ = fd (kh (leadL (kh k) r).1) (kh k) := by rw [hfd]; conv => lhs; unfold leadL; rw [if_neg (by omega)]
     have HC : Hid (∀ wx, Below w.heap.size w wx → wx.heap.size = w.heap.size → Calls Tryz.prog 133 #[.pointer (some ⟨pr, 0, none⟩), .pointer (some ⟨q, 0, none⟩), .int .i64 at_] wx fun e w' => WithR Sr q (putT (kh k) at_ k v r) wx e w') := Hd (fun wx hbx hsx => ihr _ wx Sr pr q ((uh HN6).blw hbx) r3 s4 o3 (fun b hb => by rw [hsx]; exact hS b (h2 b hb).1) ((uh HQ).below hbx) (fun e => hqS (h2 q e).1) hfl)
     rw [hb] at HB
     clear h1 h2 h3 h4 h5 h6 h0 hS hqS hq hbit HNF hne hfd hfl ihl ihr s0 s1 s2 s3 s4 o0 o1 o2 o3 r0 r2 r3
     generalize putT (kh k) at_ k v r = D at *
     generalize putT (kh k) at_ k v (.fork a hv l r) = R at *
     generalize kh k = hh at *
     go_enter Tryz.func133, Tryz.ntmps133
     go_wp2_with fail
     go_quiet ((go_at_call 128; exact Calls.quiet_of_same (uh HB _)))
     have BD := Hd (below_drewN (Below.refl w.heap.size w) nq)
     have X1 := (uh X).below (uh BD)
     have y5 := X1.cell 5 rfl
     have g5 := X1.fro 5
     have HX1 := Hd X1
     have HE : Hid ((w.drewN nq).heap.size = w.heap.size) := rfl
     clear x3 x4 x5 q2 X1
     generalize w.drewN nq = w1 at *
     go_wp2_with fail
     go_region_law ((go_simp; go_at_call 133; refine (uh HC _ (below_drewN (uh BD) 1) (uh HE)).mono ?_; rintro e w2 ⟨p2, rfl, hn2, hT2⟩; (have X2 := ((uh HX1).drewN 1).kept hT2 (fun e => ((uh HS).2.2.1 p e).2 rfl)); (have z4 := X2.cell 5 rfl); (have h4 := X2.fro 5); go_simp))
     all_goals
      have HG := Hd (with_end1 (q := q) (below_drewN (uh BD) 1) (uh HE) (uh HS).1 (uh HS).2.1 (uh HS).2.2.1 (uh HS).2.2.2.1 (uh HS).2.2.2.2.1 (uh HS).2.2.2.2.2 ((uh HX1).drewN 1) ((uh HN5).blw (below_drewN (uh BD) 1)) hn2 hT2)
      rw [← uh HP] at HG
      clear hn2 hT2 X2 z4 h4
      go_wp2_with fail
      go_ret
      exact uh HG
   ·have HF := Hd (uh HNF (by omega))
    have HP : Hid (putT (kh k) at_ k v (.fork a hv l r) = forkT at_ (kh k) k v (.fork a hv l r)) := Hd (by conv => lhs; unfold putT; rw [if_neg hlt])
    have hb1 : ¬ (a : Int) < (at_ : Int) := by omega
    have hb2 : ((at_ : Int) == 256) = false := by rw [beq_eq_false_iff_ne]; omega
    clear h1 h2 h3 h4 h5 h6 h0 hS hqS hq hbit HNF hne hfd ihl ihr hs ho r0 r2 r3
    generalize forkT at_ (kh k) k v (.fork a hv l r) = R at *
    go_enter Tryz.func133, Tryz.ntmps133
    go_wp2_with fail
    refine (uh HF).mono ?_
    rintro e w2 ⟨p2, rfl, h2⟩
    have HG : Hid (WithR S q (putT (kh k) at_ k v (.fork a hv l r)) w (.returned (.pointer (some ⟨p2, 0, none⟩))) w2) := Hd (by rw [uh HP]; exact ⟨p2, rfl, h2⟩)
    clear h2
    go_wp2_with fail
    go_ret
    exact uh HG
theorem lvs_len : ∀ t : Tr, t.lvs.length = t.lvN
 | .leaf _ _ => rfl
 | .fork _ _ l r => by show (l.lvs ++ r.lvs).length = l.lvN + r.lvN; rw [List.length_append, lvs_len l, lvs_len r]
theorem fd_full {x y : ByteArray} (hx : x.size = 32) (hy : y.size = 32) (h : fd x y = 256) : x = y := by
 have hs : ∀ k, k ≤ 32 → ∀ j, j < k → byN x j = byN y j := by
  intro k
  induction k with
  | zero => intro _ j hj; omega
  | succ k ih =>
   intro hk j hj
   by_cases e : j = k
   ·subst e
    by_cases hd : byN x j ^^^ byN y j = 0
    ·exact Nat.eq_of_testBit_eq fun i => by
      have h1 := congrArg (fun n => n.testBit i) hd
      simp only [Nat.testBit_xor, Nat.zero_testBit] at h1
      generalize (byN x j).testBit i = b1 at *
      generalize (byN y j).testBit i = b2 at *
      cases b1 <;> cases b2 <;> simp_all
    ·have h1 := fd_byte x y j (by omega) (ih (by omega)) hd
     have hlt : byN x j ^^^ byN y j < 256 := Nat.xor_lt_two_pow (n := 8) (byN_lt x j) (byN_lt y j)
     have h2 := (bl_bits ⟨byN x j ^^^ byN y j, hlt⟩ hd).1
     dsimp only at h2
     omega
   ·exact ih (by omega) j (by omega)
 have hx2 : x.data.toList.length = 32 := by simpa using hx
 have hy2 : y.data.toList.length = 32 := by simpa using hy
 have : x.data.toList = y.data.toList := by
  apply List.ext_getElem?
  intro j
  by_cases hj : j < 32
  ·have h1 := hs 32 (Nat.le_refl _) j hj
   unfold byN at h1
   have h2 := UInt8.toNat_inj.1 h1
   rw [List.getD_eq_getElem?_getD, List.getD_eq_getElem?_getD, List.getElem?_eq_getElem (by omega), List.getElem?_eq_getElem (by omega)] at h2
   rw [List.getElem?_eq_getElem (by omega), List.getElem?_eq_getElem (by omega)]
   simpa using h2
  ·rw [List.getElem?_eq_none (by omega), List.getElem?_eq_none (by omega)]
 cases x; cases y
 simpa using congrArg List.toArray this
theorem fd_ne {x y : ByteArray} (hx : x.size = 32) (hy : y.size = 32) : fd x y < 256 ↔ x ≠ y := by
 have h := fd_le x y
 constructor
 ·intro h1 e
  subst e
  have := fd_same x x (fun _ _ => rfl)
  omega
 ·intro h1
  rcases Nat.lt_or_ge (fd x y) 256 with h2 | h2
  ·exact h2
  ·exact absurd (fd_full hx hy (by omega)) h1
def lvO : Option Tr → Nat
 | none => 0
 | some t => t.lvN
theorem sizeO_any {w : World} {S : Nat → Prop} {pv : Option Addr} {o : Option Tr} (hp : PtrM w S pv o) (hok : OkO o) (h40 : lvO o ≤ 1000) :
  Calls Tryz.prog 127 #[.pointer pv] w fun e w' => e = .returned (.int .i64 (lvO o)) ∧ Below w.heap.size w w' := by
 cases o with
 | none =>
  obtain rfl : pv = none := hp
  exact callsIn_wide.1 (size_in 3 (Nat.le_refl _) none w none rfl (by simp [LO.list]))
 | some t =>
  obtain ⟨p, rfl, hn⟩ := hp
  have := size_any hn hok (by rw [lvs_len]; exact h40)
  rw [lvs_len] at this
  exact this
def putAt (t : Tr) (key : ByteArray) : Nat := fd (kh (leadL (kh key) t).1) (kh key)
def putO (o : Option Tr) (key val : ByteArray) : Tr := match o with
 | none => .leaf key val
 | some t => putT (kh key) (putAt t key) key val t
theorem put_any (key val : ByteArray) (hk : key.size ≤ 24) (w : World) (S : Nat → Prop) (pv : Option Addr) (q : Nat) (o : Option Tr) (hp : PtrM w S pv o) (hri : RiseO o) (hsp : SepO o) (hok : OkO o) (hS : ∀ b, S b → b < w.heap.size) (hq : Blk w q (lfC key val)) (hqS : ¬ S q) :
  Calls Tryz.prog 120 #[.pointer pv, .pointer (some ⟨q, 0, none⟩)] w fun e w' => WithR S q (putO o key val) w e w' := by
 cases o with
 | none =>
  obtain rfl : pv = none := hp
  have HR : Hid (WithR S q (putO none key val) w (.returned (.pointer (some ⟨q, 0, none⟩))) w) := Hd ⟨q, rfl, Nd.leaf _ q key val (.inr (.inl rfl)) hq, Touch.refl _ _⟩
  clear hq hqS hS
  go_enter Tryz.func120, Tryz.ntmps120
  go_wp2_with fail
  go_ret
  exact uh HR
 | some t =>
  obtain ⟨p, rfl, hn⟩ := hp
  have hkk := kh_size (k := key) (by omega)
  have hlo := lead_ok (kh key) t hok
  have hlk := kh_size (k := (leadL (kh key) t).1) (by have := (okK_iff.1 hlo.1).2; omega)
  have HLD := Hd (fun wx (hbx : Below w.heap.size w wx) => lead_any (kh key) hkk wx _ p t (hn.blw hbx) hri)
  have HFD := Hd (fun wx => firstDiff_any (kh (leadL (kh key) t).1) (kh key) wx hlk hkk)
  have HWI := Hd (fun n => with_any key val (fd (kh (leadL (kh key) t).1) (kh key)) (fd_le _ _) (by omega) t 0 (w.drewN n) S p q (hn.blw (below_drewN (Below.refl _ _) n)) hri hsp.1 hok hS (hq.drewN n) hqS rfl)
  have HPO : Hid (putO (some t) key val = putT (kh key) (fd (kh (leadL (kh key) t).1) (kh key)) key val t) := rfl
  rw [uh HPO]
  have q2 : w.cell? ⟨q, 2, none⟩ = some (.string (kh key)) := hq.cell 2 rfl
  generalize hlh : kh (leadL (kh key) t).1 = lh at *
  have HLH := Hd hlh
  clear hlh
  generalize fd lh (kh key) = A at *
  generalize putT (kh key) A key val t = D at *
  generalize kh key = hh at *
  clear hlo hlk hkk hn hq hS hqS HPO
  go_enter Tryz.func120, Tryz.ntmps120
  go_wp2_with fail
  go_region_law (first
   | (go_simp; go_at_call 133; refine (uh HWI _).mono ?_; rintro e w7 ⟨p7, rfl, hn7, hT7⟩; go_simp)
   | (go_simp; go_at_call 134; refine (uh HFD _).mono ?_; rintro e w6 ⟨rfl, n6, rfl⟩; go_simp)
   | (go_simp; go_at_call 126; refine (uh HLD _ (below_drewN (Below.refl _ _) 1)).mono ?_; rintro e w5 ⟨ql, rfl, hB5, n5, rfl⟩; (have cl : w.cell? ⟨ql, 2, none⟩ = some (.string lh) := (by have h := hB5.cell 2 rfl; rw [uh HLH] at h; exact h)); go_simp))
  all_goals
   have HN7 := Hd (And.intro hn7 hT7)
   clear hn7 hT7
   go_wp2_with fail
   go_ret
   refine ⟨_, rfl, ?_, (Touch.ofBelow (below_drewN (Below.refl _ _) _)).trans (uh HN7).2 (fun _ _ h => h)⟩
   exact (uh HN7).1
end Go.Proofs.YtbchnheinnileaaGreatDoor.Sha
namespace Go.Proofs.YtbchnheinnileaaGreatDoor.Sha
set_option maxRecDepth 100000
set_option maxHeartbeats 8000000
open Go.ChangeShapes Go.WideShapes Go.ChangeAt Go.RowKit
set_option linter.unusedVariables false
theorem fd_alike (x y : ByteArray) (i : Nat) (h : i < fd x y) : bitN x i = bitN y i := (fdF_facts x y 256 0).2.2.1 i (Nat.zero_le _) h
theorem fd_apart (x y : ByteArray) (h : fd x y < 256) : bitN x (fd x y) ≠ bitN y (fd x y) := (fdF_facts x y 256 0).2.2.2 (by unfold fd at h; omega)
theorem Rise.up {m n : Nat} {t : Tr} (h : Rise m t) (hn : n ≤ t.at_) : Rise n t := by
 cases t with
 | leaf k v => exact hn
 | fork a hh l r => exact ⟨hn, h.2⟩
theorem forkT_facts {a m : Nat} {k v : ByteArray} {t : Tr} (ha : a < 256) (hm : m ≤ a) (hat : a < t.at_) (hr : Rise m t) (hs : Sep t) (h1 : ∀ i, i < a → bitN (kh k) i = bitN t.hash i) (h2 : bitN (kh k) a ≠ bitN t.hash a) :
  Rise m (forkT a (kh k) k v t) ∧ Sep (forkT a (kh k) k v t) ∧ (forkT a (kh k) k v t).hash = kh k := by
 have hup : Rise (a + 1) t := hr.up (by omega)
 have hl : Rise (a + 1) (.leaf k v) := show a + 1 ≤ 256 by omega
 unfold forkT
 split
 ·rename_i hb
  exact ⟨⟨hm, ha, hl, hup⟩, ⟨fun _ _ => rfl, (fd_iff (kh k) t.hash a ha).2 ⟨h1, h2⟩, hb, trivial, hs⟩, rfl⟩
 ·rename_i hb
  have hb2 : bitN t.hash a = 0 := by
   rcases bitN_01 t.hash a with e | e
   ·exact e
   ·rcases bitN_01 (kh k) a with e' | e'
    ·exact absurd e' hb
    ·exact absurd (e'.trans e.symm) h2
  exact ⟨⟨hm, ha, hup, hl⟩, ⟨h1, (fd_iff t.hash (kh k) a ha).2 ⟨fun i hi => (h1 i hi).symm, fun e => h2 e.symm⟩, hb2, hs, trivial⟩, rfl⟩
theorem putT_facts (k v : ByteArray) : ∀ (t : Tr) (m : Nat), Rise m t → Sep t → ∀ at_, at_ = fd (kh (leadL (kh k) t).1) (kh k) → m ≤ at_ →
  Rise m (putT (kh k) at_ k v t) ∧ Sep (putT (kh k) at_ k v t) ∧ ∀ i, i < at_ → i < t.at_ → bitN (putT (kh k) at_ k v t).hash i = bitN t.hash i
 | .leaf k' v', m, hr, hs, at_, he, hm => by
  have hle : at_ ≤ 256 := by rw [he]; exact fd_le _ _
  have hal : ∀ i, i < at_ → bitN (kh k) i = bitN (kh k') i := fun i hi => (fd_alike (kh k') (kh k) i (by rw [he] at hi; exact hi)).symm
  unfold putT
  by_cases h256 : at_ = 256
  ·rw [if_pos h256]
   exact ⟨show m ≤ 256 by omega, trivial, fun i hi _ => hal i hi⟩
  ·rw [if_neg h256]
   have hap : bitN (kh k) at_ ≠ bitN (kh k') at_ := by
    have h9 := fd_apart (kh k') (kh k) (by have h8 : at_ = fd (kh k') (kh k) := he; omega)
    have h8 : at_ = fd (kh k') (kh k) := he
    rw [← h8] at h9
    exact fun e => h9 e.symm
   obtain ⟨f1, f2, f3⟩ := forkT_facts (v := v) (t := .leaf k' v') (m := m) (show at_ < 256 by omega) hm (show at_ < 256 by omega) hr hs hal hap
   exact ⟨f1, f2, fun i hi _ => by rw [f3]; exact hal i hi⟩
 | .fork a hh l r, m, hr, hs, at_, he, hm => by
  have hbit := lead_bit (kh k) hr hs
  have hlike := lead_alike (kh k) (.fork a hh l r) m hr hs
  have hr' := hr
  have hs' := hs
  obtain ⟨r0, r1, r2, r3⟩ := hr
  obtain ⟨s0, s1, s2, s3, s4⟩ := hs
  have hll := r2.le
  have hrl := r3.le
  have hfd := (fd_iff l.hash r.hash a r1).1 s1
  have hne : at_ ≠ a := fun e => by
   have h9 := fd_apart (kh (leadL (kh k) (.fork a hh l r)).1) (kh k) (by rw [← he, e]; exact r1)
   rw [← he, e] at h9
   exact h9 hbit
  unfold putT
  by_cases hlt : a < at_
  ·rw [if_pos hlt]
   by_cases hb : bitN (kh k) a = 0
   ·rw [if_pos hb]
    have hel : at_ = fd (kh (leadL (kh k) l).1) (kh k) := by rw [he]; conv => lhs; unfold leadL; rw [if_pos hb]
    obtain ⟨f1, f2, f3⟩ := putT_facts k v l (a + 1) r2 s3 at_ hel (by omega)
    have g : ∀ i, i ≤ a → bitN (putT (kh k) at_ k v l).hash i = bitN l.hash i := fun i hi => f3 i (by omega) (by omega)
    refine ⟨⟨r0, r1, f1, r3⟩, ⟨fun i hi => by rw [g i (by omega)]; exact s0 i hi, (fd_iff _ _ a r1).2 ⟨fun i hi => by rw [g i (by omega)]; exact hfd.1 i hi, by rw [g a (Nat.le_refl _)]; exact hfd.2⟩, by rw [g a (Nat.le_refl _)]; exact s2, f2, s4⟩, fun i _ _ => rfl⟩
   ·rw [if_neg hb]
    have hel : at_ = fd (kh (leadL (kh k) r).1) (kh k) := by rw [he]; conv => lhs; unfold leadL; rw [if_neg hb]
    obtain ⟨f1, f2, f3⟩ := putT_facts k v r (a + 1) r3 s4 at_ hel (by omega)
    have g : ∀ i, i ≤ a → bitN (putT (kh k) at_ k v r).hash i = bitN r.hash i := fun i hi => f3 i (by omega) (by omega)
    refine ⟨⟨r0, r1, r2, f1⟩, ⟨s0, (fd_iff _ _ a r1).2 ⟨fun i hi => by rw [g i (by omega)]; exact hfd.1 i hi, by rw [g a (Nat.le_refl _)]; exact hfd.2⟩, s2, s3, f2⟩, fun i _ _ => rfl⟩
  ·rw [if_neg hlt]
   have hal : ∀ i, i < at_ → bitN (kh k) i = bitN hh i := fun i hi => by
    rw [← fd_alike (kh (leadL (kh k) (.fork a hh l r)).1) (kh k) i (by rw [← he]; exact hi)]
    exact hlike i (show i < a by omega)
   have hap : bitN (kh k) at_ ≠ bitN hh at_ := by
    have h9 := fd_apart (kh (leadL (kh k) (.fork a hh l r)).1) (kh k) (by rw [← he]; omega)
    rw [← he] at h9
    rw [hlike at_ (show at_ < a by omega)] at h9
    exact fun e => h9 e.symm
   obtain ⟨f1, f2, f3⟩ := forkT_facts (v := v) (t := .fork a hh l r) (m := m) (show at_ < 256 by omega) hm (show at_ < a by omega) hr' hs' hal hap
   exact ⟨f1, f2, fun i hi _ => by rw [f3]; exact hal i hi⟩
theorem putO_rise {o : Option Tr} (key val : ByteArray) (hr : RiseO o) (hs : SepO o) : RiseO (some (putO o key val)) ∧ Sep (putO o key val) := by
 cases o with
 | none => exact ⟨Nat.zero_le _, trivial⟩
 | some t =>
  have h := putT_facts key val t 0 hr hs.1 (putAt t key) rfl (Nat.zero_le _)
  exact ⟨h.1, h.2.1⟩
def DropF (m : Nat) (t : Tr) : Option Tr → Prop
 | none => True
 | some t' => Rise m t' ∧ Sep t' ∧ ∀ i, i < t.at_ → bitN t'.hash i = bitN t.hash i
theorem dropT_facts (h : ByteArray) : ∀ (t : Tr) (m : Nat), Rise m t → Sep t → DropF m t (dropT h t)
 | .leaf k v, m, hr, hs => trivial
 | .fork a hh l r, m, hr, hs => by
  obtain ⟨r0, r1, r2, r3⟩ := hr
  obtain ⟨s0, s1, s2, s3, s4⟩ := hs
  have hll := r2.le
  have hrl := r3.le
  have hfd := (fd_iff l.hash r.hash a r1).1 s1
  have i1 := dropT_facts h l (a + 1) r2 s3
  have i2 := dropT_facts h r (a + 1) r3 s4
  unfold dropT
  split
  ·cases hd : dropT h l with
   | none => exact ⟨r3.up (by omega), s4, fun i hi => ((s0 i hi).trans (hfd.1 i hi)).symm⟩
   | some l' =>
    rw [hd] at i1
    obtain ⟨f1, f2, f3⟩ := i1
    have g : ∀ i, i ≤ a → bitN l'.hash i = bitN l.hash i := fun i hi => f3 i (by omega)
    exact ⟨⟨r0, r1, f1, r3⟩, ⟨fun i hi => by rw [g i (by omega)]; exact s0 i hi, (fd_iff _ _ a r1).2 ⟨fun i hi => by rw [g i (by omega)]; exact hfd.1 i hi, by rw [g a (Nat.le_refl _)]; exact hfd.2⟩, by rw [g a (Nat.le_refl _)]; exact s2, f2, s4⟩, fun i _ => rfl⟩
  ·cases hd : dropT h r with
   | none => exact ⟨r2.up (by omega), s3, fun i hi => (s0 i hi).symm⟩
   | some r' =>
    rw [hd] at i2
    obtain ⟨f1, f2, f3⟩ := i2
    have g : ∀ i, i ≤ a → bitN r'.hash i = bitN r.hash i := fun i hi => f3 i (by omega)
    exact ⟨⟨r0, r1, r2, f1⟩, ⟨s0, (fd_iff _ _ a r1).2 ⟨fun i hi => by rw [g i (by omega)]; exact hfd.1 i hi, by rw [g a (Nat.le_refl _)]; exact hfd.2⟩, s2, s3, f2⟩, fun i _ => rfl⟩
end Go.Proofs.YtbchnheinnileaaGreatDoor.Sha
namespace Go.Proofs.YtbchnheinnileaaGreatDoor.Sha
set_option maxRecDepth 100000
set_option maxHeartbeats 8000000
open Go.ChangeShapes Go.WideShapes Go.ChangeAt Go.RowKit
set_option linter.unusedVariables false
set_option linter.unusedSimpArgs false
def atCell2 (X : Nat) (w : World) : Nat := match w.cell? ⟨X, 2, none⟩ with
 | some (.int _ a) => a.toNat
 | _ => 0
theorem atCell2_is {X : Nat} {w : World} {a : Nat} (h : w.cell? ⟨X, 2, none⟩ = some (.int .i64 a)) : atCell2 X w = a := by
 unfold atCell2
 rw [h]
 simp
theorem toBr_at (t : Tr) : t.toBr.at_ = (t.at_ : Int) := by cases t <;> rfl
def GetR (o : Option Tr) (key : ByteArray) (w : World) (e : Ending) (w' : World) : Prop := ∃ (k v : ByteArray) (a : Int) (sa : Option Addr) (n cap : Nat) (fb : Bool), e = .returned (.tuple #[.agg #[.string k, .string v, .int .i64 a, .slice sa n cap], .bool fb]) ∧ Below w.heap.size w w' ∧
 match o with
 | none => fb = false
 | some t => v = (leadL (kh key) t).2 ∧ fb = decide ((leadL (kh key) t).1 = key)
theorem l07Get_any (o : Option Tr) (hok : OkO o) (hri : RiseO o) (key : ByteArray) (hk : key.size ≤ 24) (S : Nat → Prop) (kv : Value) (w : World) (hB : Brs S w kv (brOf o).kids) :
  Calls Tryz.prog 78 #[.agg #[.string (brOf o).key, .string (brOf o).val, .int .i64 (brOf o).at_, kv], .string key] w fun e w' => GetR o key w e w' := by
 obtain ⟨sa, cap, rfl, hcap, hcm⟩ := hB.shape
 have B1 := Hd ((bal w (.cells #[.string (brOf o).key, .string (brOf o).val, .int .i64 (brOf o).at_, .slice sa (brOf o).kids.length cap] 30)).alloc (by simp) (.cells #[.string ⟨#[]⟩, .string ⟨#[]⟩, .int .i64 0, .slice none 0 0] 30))
 have X1 := Hd ((Blk.new w #[.string (brOf o).key, .string (brOf o).val, .int .i64 (brOf o).at_, .slice sa (brOf o).kids.length cap] 30 w.heap.size rfl).alloc (.cells #[.string ⟨#[]⟩, .string ⟨#[]⟩, .int .i64 0, .slice none 0 0] 30))
 have R1 := Hd (Blk.new (w.alloc (.cells #[.string (brOf o).key, .string (brOf o).val, .int .i64 (brOf o).at_, .slice sa (brOf o).kids.length cap] 30)) #[.string ⟨#[]⟩, .string ⟨#[]⟩, .int .i64 0, .slice none 0 0] 30 (w.heap.size + 1) (by simp))
 have HE := Hd (fun wx => l07Empty_any (brOf o).key (brOf o).val (brOf o).at_ (brOf o).kids sa cap wx (by omega))
 have e9 : Br.mk (brOf o).key (brOf o).val (brOf o).at_ (brOf o).kids = brOf o := by cases brOf o; rfl
 rw [e9] at HE
 clear e9
 have HKB := Hd hB.bound
 have HHS := Hd (fun wx => l07Hash_any key wx (by omega))
 have hks := kh_size (k := key) (by omega)
 clear hB
 cases o with
 | none =>
  have he : emptyBr (brOf none) = true := (empty_iff _ _ _ _).2 ⟨rfl, rfl, rfl, rfl⟩
  rw [he] at HE
  dsimp only [brOf, Br.key, Br.val, Br.at_, Br.kids, List.length_nil] at *
  clear he HKB HHS
  go_enter Tryz.func78, Tryz.ntmps78
  go_wp2_with fail
  generalize (w.alloc (.cells #[.string ⟨#[]⟩, .string ⟨#[]⟩, .int .i64 0, .slice sa 0 cap] 30)).alloc (.cells #[.string ⟨#[]⟩, .string ⟨#[]⟩, .int .i64 0, .slice none 0 0] 30) = w1 at *
  refine (uh HE w1).mono ?_
  rintro e w2 ⟨rfl, hb2⟩
  have B2 := hbt B1 hb2
  have X2 := Hd ((uh X1).below hb2)
  have R2 := Hd ((uh R1).below hb2)
  clear hb2
  have x0 := (uh X2).cell 0 rfl
  have x1 := (uh X2).cell 1 rfl
  have x2 := (uh X2).cell 2 rfl
  have x3 := (uh X2).cell 3 rfl
  have y0 := (uh R2).cell 0 rfl
  have y1 := (uh R2).cell 1 rfl
  have y2 := (uh R2).cell 2 rfl
  have y3 := (uh R2).cell 3 rfl
  have f0 := (uh R2).fro 0
  have f1 := (uh R2).fro 1
  have f2 := (uh R2).fro 2
  have f3 := (uh R2).fro 3
  have R3 := Hd (((((uh R2).set 0 (.string ⟨#[]⟩) (by simp)).set 1 (.string ⟨#[]⟩) (by simp)).set 2 (.int .i64 0) (by simp)).set 3 (.slice sa 0 cap) (by simp))
  have B3 := Hd (((((uh B2).setCell (p := ⟨w.heap.size + 1, 0, none⟩) (by simp) (.string ⟨#[]⟩)).setCell (p := ⟨w.heap.size + 1, 1, none⟩) (by simp) (.string ⟨#[]⟩)).setCell (p := ⟨w.heap.size + 1, 2, none⟩) (by simp) (.int .i64 0)).setCell (p := ⟨w.heap.size + 1, 3, none⟩) (by simp) (.slice sa 0 cap))
  go_wp2_with fail
  have z0 := (uh R3).cell 0 rfl
  have z1 := (uh R3).cell 1 rfl
  have z2 := (uh R3).cell 2 rfl
  have z3 := (uh R3).cell 3 rfl
  refine bodyPost_ret (v := .tuple #[.agg #[.string ⟨#[]⟩, .string ⟨#[]⟩, .int .i64 0, .slice sa 0 cap], .bool false]) (by simp [results, Tryz.results78, go_sem, z0, z1, z2, z3]) rfl ?_
  exact ⟨_, _, _, _, _, _, _, rfl, uh B3, rfl⟩
 | some t =>
  rw [show emptyBr (brOf (some t)) = false from not_empty hok] at HE
  dsimp only [brOf] at *
  have HGR : Hid (∀ k v a sa n cap fb w', Below w.heap.size w w' → v = (leadL (kh key) t).2 → fb = decide ((leadL (kh key) t).1 = key) → GetR (some t) key w (.returned (.tuple #[.agg #[.string k, .string v, .int .i64 a, .slice sa n cap], .bool fb])) w') := Hd (fun k v a sa n cap fb w' hb h1 h2 => ⟨k, v, a, sa, n, cap, fb, rfl, hb, h1, h2⟩)
  have HOK := Hd hok
  have HRI := Hd hri
  have HT0 : Hid (∃ t0, t0 = t) := Hd ⟨t, rfl⟩
  clear hok hri
  go_enter Tryz.func78, Tryz.ntmps78
  go_wp2_with fail
  generalize (w.alloc (.cells #[.string t.toBr.key, .string t.toBr.val, .int .i64 t.toBr.at_, .slice sa t.toBr.kids.length cap] 30)).alloc (.cells #[.string ⟨#[]⟩, .string ⟨#[]⟩, .int .i64 0, .slice none 0 0] 30) = w1 at *
  refine (uh HE w1).mono ?_
  rintro e w2 ⟨rfl, hb2⟩
  have B2 := hbt B1 hb2
  have X2 := Hd ((uh X1).below hb2)
  have R2 := Hd ((uh R1).below hb2)
  clear hb2 B1 X1 R1 HE
  go_wp2_with fail
  refine (uh HHS w2).mono ?_
  rintro e w3 ⟨rfl, hb3⟩
  have B3 := hbt B2 hb3
  have X3 := Hd ((uh X2).below hb3)
  have R3 := Hd ((uh R2).below hb3)
  clear hb3 B2 X2 R2 HHS
  generalize kh key = h at *
  go_wp2_with fail
  go_loopw [] (fun wr => ∃ (m : Nat) (t' : Tr) (ka : Option Addr) (kc : Nat), Blk wr w.heap.size [.string t'.toBr.key, .string t'.toBr.val, .int .i64 t'.toBr.at_, .slice ka t'.toBr.kids.length kc] ∧ Brs (fun x => x < w.heap.size) w (.slice ka t'.toBr.kids.length kc) t'.toBr.kids ∧ Rise m t' ∧ TrOK t' ∧ leadL h t' = leadL h t ∧ Below w.heap.size w wr ∧ Blk wr (w.heap.size + 1) [.string ⟨#[]⟩, .string ⟨#[]⟩, .int .i64 0, .slice none 0 0]) (fun wr => 256 - atCell2 w.heap.size wr)
  case atStart => exact ⟨0, t, sa, cap, uh X3, uh HKB, uh HRI, uh HOK, rfl, uh B3, uh R3⟩
  case round =>
   clear HKB HRI HOK B3 X3 R3
   obtain ⟨m, t', ka, kc, hX, hKB, hRI, hOK, hL, hbw, hR⟩ := hrel
   obtain ⟨_, _, _, _, hkm⟩ := hKB.shape
   have HLF := Hd (fun wx => l07Leaf_any t'.toBr.key t'.toBr.val t'.toBr.at_ ka t'.toBr.kids.length kc wx (by unfold maxLen at hkm ⊢; have := hKB.shape; omega))
   have HX := Hd hX
   have x0 := hX.cell 0 rfl
   have x1 := hX.cell 1 rfl
   have x2 := hX.cell 2 rfl
   have x3 := hX.cell 3 rfl
   have HBW := Hd hbw
   have HRR := Hd hR
   have HL := Hd hL
   have HA := Hd (atCell2_is (X := w.heap.size) (w := wr) (a := t'.at_) (by rw [x2, toBr_at]))
   clear hX hbw hR hL
   cases t' with
   | leaf k v =>
    rw [show decide ((Tr.leaf k v).toBr.kids.length = 0) = true from rfl] at HLF
    dsimp only [Tr.toBr, Br.key, Br.val, Br.at_, Br.kids, List.length_nil] at HLF x0 x1 x2 x3 HX hKB
    have HLL : Hid (leadL h (.leaf k v) = (k, v)) := rfl
    go_wp2_with fail
    refine (uh HLF wr).mono ?_
    rintro e w4 ⟨rfl, hb4⟩
    have B4 := hbt HBW hb4
    have X4 := Hd ((uh HX).below hb4)
    have R4 := Hd ((uh HRR).below hb4)
    clear hb4 x0 x1 x2 x3 HX HBW HRR
    have x0 := (uh X4).cell 0 rfl
    have x1 := (uh X4).cell 1 rfl
    have x2 := (uh X4).cell 2 rfl
    have x3 := (uh X4).cell 3 rfl
    have y0 := (uh R4).cell 0 rfl
    have y1 := (uh R4).cell 1 rfl
    have y2 := (uh R4).cell 2 rfl
    have y3 := (uh R4).cell 3 rfl
    have f0 := (uh R4).fro 0
    have f1 := (uh R4).fro 1
    have f2 := (uh R4).fro 2
    have f3 := (uh R4).fro 3
    have HSX : Hid (∀ wx, Touch (fun b => b = w.heap.size + 1) w4 wx → wx.cell? ⟨w.heap.size, 0, none⟩ = some (.string k) ∧ wx.cell? ⟨w.heap.size, 1, none⟩ = some (.string v) ∧ wx.cell? ⟨w.heap.size, 2, none⟩ = some (.int .i64 256) ∧ wx.cell? ⟨w.heap.size, 3, none⟩ = some (.slice ka 0 kc)) := Hd (fun wx ht => by
     have X := (uh X4).kept ht (by omega)
     exact ⟨X.cell 0 rfl, X.cell 1 rfl, X.cell 2 rfl, X.cell 3 rfl⟩)
    have TS : Hid (Touch (fun b => b = w.heap.size + 1) w4 ((((w4.setCell ⟨w.heap.size + 1, 0, none⟩ (.string k)).setCell ⟨w.heap.size + 1, 1, none⟩ (.string v)).setCell ⟨w.heap.size + 1, 2, none⟩ (.int .i64 256)).setCell ⟨w.heap.size + 1, 3, none⟩ (.slice ka 0 kc)).drew) := Hd (((((Touch.refl (fun b => b = w.heap.size + 1) w4).setCell ⟨w.heap.size + 1, 0, none⟩ (.string k) (fun _ => rfl)).setCell ⟨w.heap.size + 1, 1, none⟩ (.string v) (fun _ => rfl)).setCell ⟨w.heap.size + 1, 2, none⟩ (.int .i64 256) (fun _ => rfl)).setCell ⟨w.heap.size + 1, 3, none⟩ (.slice ka 0 kc) (fun _ => rfl)).drew
    have R5 : Hid (Blk ((((w4.setCell ⟨w.heap.size + 1, 0, none⟩ (.string k)).setCell ⟨w.heap.size + 1, 1, none⟩ (.string v)).setCell ⟨w.heap.size + 1, 2, none⟩ (.int .i64 256)).setCell ⟨w.heap.size + 1, 3, none⟩ (.slice ka 0 kc)).drew (w.heap.size + 1) [.string k, .string v, .int .i64 256, .slice ka 0 kc]) := Hd ((((((uh R4).set 0 (.string k) (by simp)).set 1 (.string v) (by simp)).set 2 (.int .i64 256) (by simp)).set 3 (.slice ka 0 kc) (by simp)).drewN 1)
    have B5 : Hid (Below w.heap.size w ((((w4.setCell ⟨w.heap.size + 1, 0, none⟩ (.string k)).setCell ⟨w.heap.size + 1, 1, none⟩ (.string v)).setCell ⟨w.heap.size + 1, 2, none⟩ (.int .i64 256)).setCell ⟨w.heap.size + 1, 3, none⟩ (.slice ka 0 kc)).drew) := Hd (((((uh B4).setCell (p := ⟨w.heap.size + 1, 0, none⟩) (by simp) (.string k)).setCell (p := ⟨w.heap.size + 1, 1, none⟩) (by simp) (.string v)).setCell (p := ⟨w.heap.size + 1, 2, none⟩) (by simp) (.int .i64 256)).setCell (p := ⟨w.heap.size + 1, 3, none⟩) (by simp) (.slice ka 0 kc)).drew
    have HKV : Hid (v = (leadL h t).2 ∧ (leadL h t).1 = k) := Hd (by rw [← uh HL, uh HLL]; exact ⟨rfl, rfl⟩)
    by_cases hkk : k = key
    ·have hb := list_eq hkk
     have HD : Hid (decide ((leadL h t).1 = key) = true) := Hd (by rw [(uh HKV).2]; exact decide_eq_true hkk)
     clear hkk
     go_wp2_with fail
     go_region_held3 (fun wx => wx.cell? ⟨w.heap.size, 0, none⟩ = some (.string k) ∧ wx.cell? ⟨w.heap.size, 1, none⟩ = some (.string v) ∧ wx.cell? ⟨w.heap.size, 2, none⟩ = some (.int .i64 256) ∧ wx.cell? ⟨w.heap.size, 3, none⟩ = some (.slice ka 0 kc)) (first | go_keep | exact uh HSX _ (uh TS)) (fail)
     generalize ((((w4.setCell ⟨w.heap.size + 1, 0, none⟩ (.string k)).setCell ⟨w.heap.size + 1, 1, none⟩ (.string v)).setCell ⟨w.heap.size + 1, 2, none⟩ (.int .i64 256)).setCell ⟨w.heap.size + 1, 3, none⟩ (.slice ka 0 kc)).drew = w5 at *
     clear x0 x1 x2 x3 y0 y1 y2 y3 f0 f1 f2 f3 HSX TS
     go_wp2_with fail
     have z0 := (uh R5).cell 0 rfl
     have z1 := (uh R5).cell 1 rfl
     have z2 := (uh R5).cell 2 rfl
     have z3 := (uh R5).cell 3 rfl
     refine bodyPost_ret (v := .tuple #[.agg #[.string k, .string v, .int .i64 256, .slice ka 0 kc], .bool true]) (by simp [results, Tryz.results78, go_sem, z0, z1, z2, z3]) rfl ?_
     exact uh HGR _ _ _ _ _ _ _ _ (uh B5) (uh HKV).1 (uh HD).symm
    ·have hb := list_ne hkk
     have HD : Hid (decide ((leadL h t).1 = key) = false) := Hd (by rw [(uh HKV).2]; exact decide_eq_false hkk)
     clear hkk
     go_wp2_with fail
     go_region_held3 (fun wx => wx.cell? ⟨w.heap.size, 0, none⟩ = some (.string k) ∧ wx.cell? ⟨w.heap.size, 1, none⟩ = some (.string v) ∧ wx.cell? ⟨w.heap.size, 2, none⟩ = some (.int .i64 256) ∧ wx.cell? ⟨w.heap.size, 3, none⟩ = some (.slice ka 0 kc)) (first | go_keep | exact uh HSX _ (uh TS)) (fail)
     generalize ((((w4.setCell ⟨w.heap.size + 1, 0, none⟩ (.string k)).setCell ⟨w.heap.size + 1, 1, none⟩ (.string v)).setCell ⟨w.heap.size + 1, 2, none⟩ (.int .i64 256)).setCell ⟨w.heap.size + 1, 3, none⟩ (.slice ka 0 kc)).drew = w5 at *
     clear x0 x1 x2 x3 y0 y1 y2 y3 f0 f1 f2 f3 HSX TS
     go_wp2_with fail
     have z0 := (uh R5).cell 0 rfl
     have z1 := (uh R5).cell 1 rfl
     have z2 := (uh R5).cell 2 rfl
     have z3 := (uh R5).cell 3 rfl
     refine bodyPost_ret (v := .tuple #[.agg #[.string k, .string v, .int .i64 256, .slice ka 0 kc], .bool false]) (by simp [results, Tryz.results78, go_sem, z0, z1, z2, z3]) rfl ?_
     exact uh HGR _ _ _ _ _ _ _ _ (uh B5) (uh HKV).1 (uh HD).symm
   | fork a hv l r =>
    rw [show decide ((Tr.fork a hv l r).toBr.kids.length = 0) = false from rfl] at HLF
    dsimp only [Tr.toBr, Br.key, Br.val, Br.at_, Br.kids] at HLF x0 x1 x2 x3 HX hKB
    rw [show ([l.toBr, r.toBr] : List Br).length = 2 from rfl] at HLF x3 HX hKB
    obtain ⟨r0, r1, r2, r3⟩ := hRI
    obtain ⟨_, _, okl, okr⟩ := hOK
    obtain ⟨bb, off, kvf, rfl, _, hat⟩ := hKB.at (by simp)
    have hbb := hat.lt
    obtain ⟨s00, s01, s02, s03⟩ := hat.cells 0 (by simp)
    obtain ⟨s10, s11, s12, s13⟩ := hat.cells 1 (by simp)
    have K0 := Hd (hat.kids 0 (by simp))
    have K1 := Hd (hat.kids 1 (by simp))
    simp only [List.getD_cons_zero, List.getD_cons_succ, Nat.zero_mul, Nat.add_zero, Nat.one_mul] at s00 s01 s02 s03 s10 s11 s12 s13 K0 K1
    obtain ⟨ka0, kc0, hkv0, _, _⟩ := (uh K0).shape
    obtain ⟨ka1, kc1, hkv1, _, _⟩ := (uh K1).shape
    rw [hkv0] at K0 s03
    rw [hkv1] at K1 s13
    have HLE : Hid (leadL h (.fork a hv l r) = if bitN h a = 0 then leadL h l else leadL h r) := rfl
    have HBT := Hd (fun wx => l07Bit_any h a wx hks r1)
    have hA : Hid (atCell2 w.heap.size wr = a) := HA
    clear hKB hat hkv0 hkv1 HA
    go_wp2_with fail
    refine (uh HLF wr).mono ?_
    rintro e w4 ⟨rfl, hb4⟩
    have B4 := hbt HBW hb4
    have X4 := Hd ((uh HX).below hb4)
    have R4 := Hd ((uh HRR).below hb4)
    clear hb4 x0 x1 x2 x3 HX HBW HRR
    have x0 := (uh X4).cell 0 rfl
    have x1 := (uh X4).cell 1 rfl
    have x2 := (uh X4).cell 2 rfl
    have x3 := (uh X4).cell 3 rfl
    have f0 := (uh X4).fro 0
    have f1 := (uh X4).fro 1
    have f2 := (uh X4).fro 2
    have f3 := (uh X4).fro 3
    have B4d := uh B4
    have t00 := (B4d.cell (p := ⟨bb, off, none⟩) hbb).trans s00
    have t01 := (B4d.cell (p := ⟨bb, off + 1, none⟩) hbb).trans s01
    have t02 := (B4d.cell (p := ⟨bb, off + 2, none⟩) hbb).trans s02
    have t03 := (B4d.cell (p := ⟨bb, off + 3, none⟩) hbb).trans s03
    have t10 := (B4d.cell (p := ⟨bb, off + 4, none⟩) hbb).trans s10
    have t11 := (B4d.cell (p := ⟨bb, off + 4 + 1, none⟩) hbb).trans s11
    have t12 := (B4d.cell (p := ⟨bb, off + 4 + 2, none⟩) hbb).trans s12
    have t13 := (B4d.cell (p := ⟨bb, off + 4 + 3, none⟩) hbb).trans s13
    clear s00 s01 s02 s03 s10 s11 s12 s13 B4d
    rcases bitN_01 h a with hb | hb
    ·rw [hb] at HBT HLE
     rw [if_pos rfl] at HLE
     have XN : Hid (Blk ((((w4.setCell ⟨w.heap.size, 0, none⟩ (.string l.toBr.key)).setCell ⟨w.heap.size, 1, none⟩ (.string l.toBr.val)).setCell ⟨w.heap.size, 2, none⟩ (.int .i64 l.toBr.at_)).setCell ⟨w.heap.size, 3, none⟩ (.slice ka0 l.toBr.kids.length kc0)).drew w.heap.size [.string l.toBr.key, .string l.toBr.val, .int .i64 l.toBr.at_, .slice ka0 l.toBr.kids.length kc0]) := Hd ((((((uh X4).set 0 (.string l.toBr.key) (by simp)).set 1 (.string l.toBr.val) (by simp)).set 2 (.int .i64 l.toBr.at_) (by simp)).set 3 (.slice ka0 l.toBr.kids.length kc0) (by simp)).drewN 1)
     have BN : Hid (Below w.heap.size w ((((w4.setCell ⟨w.heap.size, 0, none⟩ (.string l.toBr.key)).setCell ⟨w.heap.size, 1, none⟩ (.string l.toBr.val)).setCell ⟨w.heap.size, 2, none⟩ (.int .i64 l.toBr.at_)).setCell ⟨w.heap.size, 3, none⟩ (.slice ka0 l.toBr.kids.length kc0)).drew) := Hd (((((uh B4).setCell (p := ⟨w.heap.size, 0, none⟩) (Nat.le_refl _) (.string l.toBr.key)).setCell (p := ⟨w.heap.size, 1, none⟩) (Nat.le_refl _) (.string l.toBr.val)).setCell (p := ⟨w.heap.size, 2, none⟩) (Nat.le_refl _) (.int .i64 l.toBr.at_)).setCell (p := ⟨w.heap.size, 3, none⟩) (Nat.le_refl _) (.slice ka0 l.toBr.kids.length kc0)).drew
     have RN : Hid (Blk ((((w4.setCell ⟨w.heap.size, 0, none⟩ (.string l.toBr.key)).setCell ⟨w.heap.size, 1, none⟩ (.string l.toBr.val)).setCell ⟨w.heap.size, 2, none⟩ (.int .i64 l.toBr.at_)).setCell ⟨w.heap.size, 3, none⟩ (.slice ka0 l.toBr.kids.length kc0)).drew (w.heap.size + 1) [.string ⟨#[]⟩, .string ⟨#[]⟩, .int .i64 0, .slice none 0 0]) := Hd ((((((uh R4).other (C := w.heap.size) 0 (.string l.toBr.key) (by omega)).other (C := w.heap.size) 1 (.string l.toBr.val) (by omega)).other (C := w.heap.size) 2 (.int .i64 l.toBr.at_) (by omega)).other (C := w.heap.size) 3 (.slice ka0 l.toBr.kids.length kc0) (by omega)).drewN 1)
     go_wp2_with fail
     go_region_law ((go_simp; go_at_call 95; refine (uh HBT _).mono ?_; rintro e w9 ⟨rfl, hw9⟩; subst w9; go_simp))
     all_goals
      generalize ((((w4.setCell ⟨w.heap.size, 0, none⟩ (.string l.toBr.key)).setCell ⟨w.heap.size, 1, none⟩ (.string l.toBr.val)).setCell ⟨w.heap.size, 2, none⟩ (.int .i64 l.toBr.at_)).setCell ⟨w.heap.size, 3, none⟩ (.slice ka0 l.toBr.kids.length kc0)).drew = w5 at *
      clear x0 x1 x2 x3 f0 f1 f2 f3 t00 t01 t02 t03 t10 t11 t12 t13
      go_wp2_with fail
      have hat := atCell2_is (X := w.heap.size) (w := w5) (a := l.at_) (by rw [(uh XN).cell 2 rfl, toBr_at])
      have hle := r2.le
      have hle2 := r2.le256
      refine ⟨⟨a + 1, l, ka0, kc0, uh XN, uh K0, r2, okl, by rw [← uh HL, uh HLE], uh BN, uh RN⟩, ?_⟩
      rw [hat, uh hA]
      omega
    ·rw [hb] at HBT HLE
     rw [if_neg (by omega)] at HLE
     have XN : Hid (Blk ((((w4.setCell ⟨w.heap.size, 0, none⟩ (.string r.toBr.key)).setCell ⟨w.heap.size, 1, none⟩ (.string r.toBr.val)).setCell ⟨w.heap.size, 2, none⟩ (.int .i64 r.toBr.at_)).setCell ⟨w.heap.size, 3, none⟩ (.slice ka1 r.toBr.kids.length kc1)).drew w.heap.size [.string r.toBr.key, .string r.toBr.val, .int .i64 r.toBr.at_, .slice ka1 r.toBr.kids.length kc1]) := Hd ((((((uh X4).set 0 (.string r.toBr.key) (by simp)).set 1 (.string r.toBr.val) (by simp)).set 2 (.int .i64 r.toBr.at_) (by simp)).set 3 (.slice ka1 r.toBr.kids.length kc1) (by simp)).drewN 1)
     have BN : Hid (Below w.heap.size w ((((w4.setCell ⟨w.heap.size, 0, none⟩ (.string r.toBr.key)).setCell ⟨w.heap.size, 1, none⟩ (.string r.toBr.val)).setCell ⟨w.heap.size, 2, none⟩ (.int .i64 r.toBr.at_)).setCell ⟨w.heap.size, 3, none⟩ (.slice ka1 r.toBr.kids.length kc1)).drew) := Hd (((((uh B4).setCell (p := ⟨w.heap.size, 0, none⟩) (Nat.le_refl _) (.string r.toBr.key)).setCell (p := ⟨w.heap.size, 1, none⟩) (Nat.le_refl _) (.string r.toBr.val)).setCell (p := ⟨w.heap.size, 2, none⟩) (Nat.le_refl _) (.int .i64 r.toBr.at_)).setCell (p := ⟨w.heap.size, 3, none⟩) (Nat.le_refl _) (.slice ka1 r.toBr.kids.length kc1)).drew
     have RN : Hid (Blk ((((w4.setCell ⟨w.heap.size, 0, none⟩ (.string r.toBr.key)).setCell ⟨w.heap.size, 1, none⟩ (.string r.toBr.val)).setCell ⟨w.heap.size, 2, none⟩ (.int .i64 r.toBr.at_)).setCell ⟨w.heap.size, 3, none⟩ (.slice ka1 r.toBr.kids.length kc1)).drew (w.heap.size + 1) [.string ⟨#[]⟩, .string ⟨#[]⟩, .int .i64 0, .slice none 0 0]) := Hd ((((((uh R4).other (C := w.heap.size) 0 (.string r.toBr.key) (by omega)).other (C := w.heap.size) 1 (.string r.toBr.val) (by omega)).other (C := w.heap.size) 2 (.int .i64 r.toBr.at_) (by omega)).other (C := w.heap.size) 3 (.slice ka1 r.toBr.kids.length kc1) (by omega)).drewN 1)
     go_wp2_with fail
     go_region_law ((go_simp; go_at_call 95; refine (uh HBT _).mono ?_; rintro e w9 ⟨rfl, hw9⟩; subst w9; go_simp))
     all_goals
      generalize ((((w4.setCell ⟨w.heap.size, 0, none⟩ (.string r.toBr.key)).setCell ⟨w.heap.size, 1, none⟩ (.string r.toBr.val)).setCell ⟨w.heap.size, 2, none⟩ (.int .i64 r.toBr.at_)).setCell ⟨w.heap.size, 3, none⟩ (.slice ka1 r.toBr.kids.length kc1)).drew = w5 at *
      clear x0 x1 x2 x3 f0 f1 f2 f3 t00 t01 t02 t03 t10 t11 t12 t13
      go_wp2_with fail
      have hat := atCell2_is (X := w.heap.size) (w := w5) (a := r.at_) (by rw [(uh XN).cell 2 rfl, toBr_at])
      have hle := r3.le
      have hle2 := r3.le256
      refine ⟨⟨a + 1, r, ka1, kc1, uh XN, uh K1, r3, okr, by rw [← uh HL, uh HLE], uh BN, uh RN⟩, ?_⟩
      rw [hat, uh hA]
      omega
end Go.Proofs.YtbchnheinnileaaGreatDoor.Sha
