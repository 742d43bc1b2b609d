/- What the proof of the claim needs (joined by program): BrPt BrPr. -/
import Derived.Test.YtnhhnjmjodmacaaGreatDoorQaa13
import Derived.Test.YtnhhnjmjodmacaaGreatDoorQaa14
import Derived.Test.YtnhhnjmjodmacaaGreatDoorQaa12
import Derived.Deep.DeepCutAuto
namespace Go.Proofs.YtnhhnjmjodmacaaGreatDoor.Sha
set_option maxRecDepth 100000
set_option maxHeartbeats 8000000
open Go.ChangeShapes Go.WideShapes Go.ChangeAt Go.RowKit
set_option linter.unusedVariables false
set_option linter.unusedSimpArgs false
theorem lvs_len : ∀ t : Tr, t.lvs.length = t.lvN
 | .leaf _ _ => rfl
 | .fork _ _ l r => by show (l.lvs ++ r.lvs).length = l.lvN + r.lvN; rw [List.length_append, lvs_len l, lvs_len r]
theorem fd_full {x y : ByteArray} (hx : x.size = 32) (hy : y.size = 32) (h : fd x y = 256) : x = y := by
 have hs : ∀ k, k ≤ 32 → ∀ j, j < k → byN x j = byN y j := by
  intro k
  induction k with
  | zero => intro _ j hj; omega
  | succ k ih =>
   intro hk j hj
   by_cases e : j = k
   ·subst e
    by_cases hd : byN x j ^^^ byN y j = 0
    ·exact Nat.eq_of_testBit_eq fun i => by
      have h1 := congrArg (fun n => n.testBit i) hd
      simp only [Nat.testBit_xor, Nat.zero_testBit] at h1
      generalize (byN x j).testBit i = b1 at *
      generalize (byN y j).testBit i = b2 at *
      cases b1 <;> cases b2 <;> simp_all
    ·have h1 := fd_byte x y j (by omega) (ih (by omega)) hd
     have hlt : byN x j ^^^ byN y j < 256 := Nat.xor_lt_two_pow (n := 8) (byN_lt x j) (byN_lt y j)
     have h2 := (bl_bits ⟨byN x j ^^^ byN y j, hlt⟩ hd).1
     dsimp only at h2
     omega
   ·exact ih (by omega) j (by omega)
 have hx2 : x.data.toList.length = 32 := by simpa using hx
 have hy2 : y.data.toList.length = 32 := by simpa using hy
 have : x.data.toList = y.data.toList := by
  apply List.ext_getElem?
  intro j
  by_cases hj : j < 32
  ·have h1 := hs 32 (Nat.le_refl _) j hj
   unfold byN at h1
   have h2 := UInt8.toNat_inj.1 h1
   rw [List.getD_eq_getElem?_getD, List.getD_eq_getElem?_getD, List.getElem?_eq_getElem (by omega), List.getElem?_eq_getElem (by omega)] at h2
   rw [List.getElem?_eq_getElem (by omega), List.getElem?_eq_getElem (by omega)]
   simpa using h2
  ·rw [List.getElem?_eq_none (by omega), List.getElem?_eq_none (by omega)]
 cases x; cases y
 simpa using congrArg List.toArray this
theorem fd_ne {x y : ByteArray} (hx : x.size = 32) (hy : y.size = 32) : fd x y < 256 ↔ x ≠ y := by
 have h := fd_le x y
 constructor
 ·intro h1 e
  subst e
  have := fd_same x x (fun _ _ => rfl)
  omega
 ·intro h1
  rcases Nat.lt_or_ge (fd x y) 256 with h2 | h2
  ·exact h2
  ·exact absurd (fd_full hx hy (by omega)) h1
def lvO : Option Tr → Nat
 | none => 0
 | some t => t.lvN
theorem sizeO_any {w : World} {S : Nat → Prop} {pv : Option Addr} {o : Option Tr} (hp : PtrM w S pv o) (hok : OkO o) (h40 : lvO o ≤ 1000) :
  Calls Tryz.prog 142 #[.pointer pv] w fun e w' => e = .returned (.int .i64 (lvO o)) ∧ Below w.heap.size w w' := by
 cases o with
 | none =>
  obtain rfl : pv = none := hp
  exact callsIn_wide.1 (size_in 3 (Nat.le_refl _) none w none rfl (by simp [LO.list]))
 | some t =>
  obtain ⟨p, rfl, hn⟩ := hp
  have := size_any hn hok (by rw [lvs_len]; exact h40)
  rw [lvs_len] at this
  exact this
def putAt (t : Tr) (key : ByteArray) : Nat := fd (kh (leadL (kh key) t).1) (kh key)
def putO (o : Option Tr) (key val : ByteArray) : Tr := match o with
 | none => .leaf key val
 | some t => putT (kh key) (putAt t key) key val t
theorem put_any (key val : ByteArray) (hk : key.size ≤ 24) (w : World) (S : Nat → Prop) (pv : Option Addr) (q : Nat) (o : Option Tr) (hp : PtrM w S pv o) (hri : RiseO o) (hsp : SepO o) (hok : OkO o) (hS : ∀ b, S b → b < w.heap.size) (hq : Blk w q (lfC key val)) (hqS : ¬ S q) :
  Calls Tryz.prog 135 #[.pointer pv, .pointer (some ⟨q, 0, none⟩)] w fun e w' => WithR S q (putO o key val) w e w' := by
 cases o with
 | none =>
  obtain rfl : pv = none := hp
  have HR : Hid (WithR S q (putO none key val) w (.returned (.pointer (some ⟨q, 0, none⟩))) w) := Hd ⟨q, rfl, Nd.leaf _ q key val (.inr (.inl rfl)) hq, Touch.refl _ _⟩
  clear hq hqS hS
  go_enter Tryz.func135, Tryz.ntmps135
  go_wp2_with fail
  go_ret
  exact uh HR
 | some t =>
  obtain ⟨p, rfl, hn⟩ := hp
  have hkk := kh_size (k := key) (by omega)
  have hlo := lead_ok (kh key) t hok
  have hlk := kh_size (k := (leadL (kh key) t).1) (by have := (okK_iff.1 hlo.1).2; omega)
  have HLD := Hd (fun wx (hbx : Below w.heap.size w wx) => lead_any (kh key) hkk wx _ p t (hn.blw hbx) hri)
  have HFD := Hd (fun wx => firstDiff_any (kh (leadL (kh key) t).1) (kh key) wx hlk hkk)
  have HWI := Hd (fun n => with_any key val (fd (kh (leadL (kh key) t).1) (kh key)) (fd_le _ _) (by omega) t 0 (w.drewN n) S p q (hn.blw (below_drewN (Below.refl _ _) n)) hri hsp.1 hok hS (hq.drewN n) hqS rfl)
  have HPO : Hid (putO (some t) key val = putT (kh key) (fd (kh (leadL (kh key) t).1) (kh key)) key val t) := rfl
  rw [uh HPO]
  have q2 : w.cell? ⟨q, 2, none⟩ = some (.string (kh key)) := hq.cell 2 rfl
  generalize hlh : kh (leadL (kh key) t).1 = lh at *
  have HLH := Hd hlh
  clear hlh
  generalize fd lh (kh key) = A at *
  generalize putT (kh key) A key val t = D at *
  generalize kh key = hh at *
  clear hlo hlk hkk hn hq hS hqS HPO
  go_enter Tryz.func135, Tryz.ntmps135
  go_wp2_with fail
  go_region_law (first
   | (go_simp; go_at_call 147; refine (uh HWI _).mono ?_; rintro e w7 ⟨p7, rfl, hn7, hT7⟩; go_simp)
   | (go_simp; go_at_call 113; refine (uh HFD _).mono ?_; rintro e w6 ⟨rfl, n6, rfl⟩; go_simp)
   | (go_simp; go_at_call 141; refine (uh HLD _ (below_drewN (Below.refl _ _) 1)).mono ?_; rintro e w5 ⟨ql, rfl, hB5, n5, rfl⟩; (have cl : w.cell? ⟨ql, 2, none⟩ = some (.string lh) := (by have h := hB5.cell 2 rfl; rw [uh HLH] at h; exact h)); go_simp))
  all_goals
   have HN7 := Hd (And.intro hn7 hT7)
   clear hn7 hT7
   go_wp2_with fail
   go_ret
   refine ⟨_, rfl, ?_, (Touch.ofBelow (below_drewN (Below.refl _ _) _)).trans (uh HN7).2 (fun _ _ h => h)⟩
   exact (uh HN7).1
end Go.Proofs.YtnhhnjmjodmacaaGreatDoor.Sha
namespace Go.Proofs.YtnhhnjmjodmacaaGreatDoor.Sha
set_option maxRecDepth 100000
set_option maxHeartbeats 8000000
open Go.ChangeShapes Go.WideShapes Go.ChangeAt Go.RowKit
set_option linter.unusedVariables false
theorem fd_alike (x y : ByteArray) (i : Nat) (h : i < fd x y) : bitN x i = bitN y i := (fdF_facts x y 256 0).2.2.1 i (Nat.zero_le _) h
theorem fd_apart (x y : ByteArray) (h : fd x y < 256) : bitN x (fd x y) ≠ bitN y (fd x y) := (fdF_facts x y 256 0).2.2.2 (by unfold fd at h; omega)
theorem Rise.up {m n : Nat} {t : Tr} (h : Rise m t) (hn : n ≤ t.at_) : Rise n t := by
 cases t with
 | leaf k v => exact hn
 | fork a hh l r => exact ⟨hn, h.2⟩
theorem forkT_facts {a m : Nat} {k v : ByteArray} {t : Tr} (ha : a < 256) (hm : m ≤ a) (hat : a < t.at_) (hr : Rise m t) (hs : Sep t) (h1 : ∀ i, i < a → bitN (kh k) i = bitN t.hash i) (h2 : bitN (kh k) a ≠ bitN t.hash a) :
  Rise m (forkT a (kh k) k v t) ∧ Sep (forkT a (kh k) k v t) ∧ (forkT a (kh k) k v t).hash = kh k := by
 have hup : Rise (a + 1) t := hr.up (by omega)
 have hl : Rise (a + 1) (.leaf k v) := show a + 1 ≤ 256 by omega
 unfold forkT
 split
 ·rename_i hb
  exact ⟨⟨hm, ha, hl, hup⟩, ⟨fun _ _ => rfl, (fd_iff (kh k) t.hash a ha).2 ⟨h1, h2⟩, hb, trivial, hs⟩, rfl⟩
 ·rename_i hb
  have hb2 : bitN t.hash a = 0 := by
   rcases bitN_01 t.hash a with e | e
   ·exact e
   ·rcases bitN_01 (kh k) a with e' | e'
    ·exact absurd e' hb
    ·exact absurd (e'.trans e.symm) h2
  exact ⟨⟨hm, ha, hup, hl⟩, ⟨h1, (fd_iff t.hash (kh k) a ha).2 ⟨fun i hi => (h1 i hi).symm, fun e => h2 e.symm⟩, hb2, hs, trivial⟩, rfl⟩
theorem putT_facts (k v : ByteArray) : ∀ (t : Tr) (m : Nat), Rise m t → Sep t → ∀ at_, at_ = fd (kh (leadL (kh k) t).1) (kh k) → m ≤ at_ →
  Rise m (putT (kh k) at_ k v t) ∧ Sep (putT (kh k) at_ k v t) ∧ ∀ i, i < at_ → i < t.at_ → bitN (putT (kh k) at_ k v t).hash i = bitN t.hash i
 | .leaf k' v', m, hr, hs, at_, he, hm => by
  have hle : at_ ≤ 256 := by rw [he]; exact fd_le _ _
  have hal : ∀ i, i < at_ → bitN (kh k) i = bitN (kh k') i := fun i hi => (fd_alike (kh k') (kh k) i (by rw [he] at hi; exact hi)).symm
  unfold putT
  by_cases h256 : at_ = 256
  ·rw [if_pos h256]
   exact ⟨show m ≤ 256 by omega, trivial, fun i hi _ => hal i hi⟩
  ·rw [if_neg h256]
   have hap : bitN (kh k) at_ ≠ bitN (kh k') at_ := by
    have h9 := fd_apart (kh k') (kh k) (by have h8 : at_ = fd (kh k') (kh k) := he; omega)
    have h8 : at_ = fd (kh k') (kh k) := he
    rw [← h8] at h9
    exact fun e => h9 e.symm
   obtain ⟨f1, f2, f3⟩ := forkT_facts (v := v) (t := .leaf k' v') (m := m) (show at_ < 256 by omega) hm (show at_ < 256 by omega) hr hs hal hap
   exact ⟨f1, f2, fun i hi _ => by rw [f3]; exact hal i hi⟩
 | .fork a hh l r, m, hr, hs, at_, he, hm => by
  have hbit := lead_bit (kh k) hr hs
  have hlike := lead_alike (kh k) (.fork a hh l r) m hr hs
  have hr' := hr
  have hs' := hs
  obtain ⟨r0, r1, r2, r3⟩ := hr
  obtain ⟨s0, s1, s2, s3, s4⟩ := hs
  have hll := r2.le
  have hrl := r3.le
  have hfd := (fd_iff l.hash r.hash a r1).1 s1
  have hne : at_ ≠ a := fun e => by
   have h9 := fd_apart (kh (leadL (kh k) (.fork a hh l r)).1) (kh k) (by rw [← he, e]; exact r1)
   rw [← he, e] at h9
   exact h9 hbit
  unfold putT
  by_cases hlt : a < at_
  ·rw [if_pos hlt]
   by_cases hb : bitN (kh k) a = 0
   ·rw [if_pos hb]
    have hel : at_ = fd (kh (leadL (kh k) l).1) (kh k) := by rw [he]; conv => lhs; unfold leadL; rw [if_pos hb]
    obtain ⟨f1, f2, f3⟩ := putT_facts k v l (a + 1) r2 s3 at_ hel (by omega)
    have g : ∀ i, i ≤ a → bitN (putT (kh k) at_ k v l).hash i = bitN l.hash i := fun i hi => f3 i (by omega) (by omega)
    refine ⟨⟨r0, r1, f1, r3⟩, ⟨fun i hi => by rw [g i (by omega)]; exact s0 i hi, (fd_iff _ _ a r1).2 ⟨fun i hi => by rw [g i (by omega)]; exact hfd.1 i hi, by rw [g a (Nat.le_refl _)]; exact hfd.2⟩, by rw [g a (Nat.le_refl _)]; exact s2, f2, s4⟩, fun i _ _ => rfl⟩
   ·rw [if_neg hb]
    have hel : at_ = fd (kh (leadL (kh k) r).1) (kh k) := by rw [he]; conv => lhs; unfold leadL; rw [if_neg hb]
    obtain ⟨f1, f2, f3⟩ := putT_facts k v r (a + 1) r3 s4 at_ hel (by omega)
    have g : ∀ i, i ≤ a → bitN (putT (kh k) at_ k v r).hash i = bitN r.hash i := fun i hi => f3 i (by omega) (by omega)
    refine ⟨⟨r0, r1, r2, f1⟩, ⟨s0, (fd_iff _ _ a r1).2 ⟨fun i hi => by rw [g i (by omega)]; exact hfd.1 i hi, by rw [g a (Nat.le_refl _)]; exact hfd.2⟩, s2, s3, f2⟩, fun i _ _ => rfl⟩
  ·rw [if_neg hlt]
   have hal : ∀ i, i < at_ → bitN (kh k) i = bitN hh i := fun i hi => by
    rw [← fd_alike (kh (leadL (kh k) (.fork a hh l r)).1) (kh k) i (by rw [← he]; exact hi)]
    exact hlike i (show i < a by omega)
   have hap : bitN (kh k) at_ ≠ bitN hh at_ := by
    have h9 := fd_apart (kh (leadL (kh k) (.fork a hh l r)).1) (kh k) (by rw [← he]; omega)
    rw [← he] at h9
    rw [hlike at_ (show at_ < a by omega)] at h9
    exact fun e => h9 e.symm
   obtain ⟨f1, f2, f3⟩ := forkT_facts (v := v) (t := .fork a hh l r) (m := m) (show at_ < 256 by omega) hm (show at_ < a by omega) hr' hs' hal hap
   exact ⟨f1, f2, fun i hi _ => by rw [f3]; exact hal i hi⟩
theorem putO_rise {o : Option Tr} (key val : ByteArray) (hr : RiseO o) (hs : SepO o) : RiseO (some (putO o key val)) ∧ Sep (putO o key val) := by
 cases o with
 | none => exact ⟨Nat.zero_le _, trivial⟩
 | some t =>
  have h := putT_facts key val t 0 hr hs.1 (putAt t key) rfl (Nat.zero_le _)
  exact ⟨h.1, h.2.1⟩
def DropF (m : Nat) (t : Tr) : Option Tr → Prop
 | none => True
 | some t' => Rise m t' ∧ Sep t' ∧ ∀ i, i < t.at_ → bitN t'.hash i = bitN t.hash i
theorem dropT_facts (h : ByteArray) : ∀ (t : Tr) (m : Nat), Rise m t → Sep t → DropF m t (dropT h t)
 | .leaf k v, m, hr, hs => trivial
 | .fork a hh l r, m, hr, hs => by
  obtain ⟨r0, r1, r2, r3⟩ := hr
  obtain ⟨s0, s1, s2, s3, s4⟩ := hs
  have hll := r2.le
  have hrl := r3.le
  have hfd := (fd_iff l.hash r.hash a r1).1 s1
  have i1 := dropT_facts h l (a + 1) r2 s3
  have i2 := dropT_facts h r (a + 1) r3 s4
  unfold dropT
  split
  ·cases hd : dropT h l with
   | none => exact ⟨r3.up (by omega), s4, fun i hi => ((s0 i hi).trans (hfd.1 i hi)).symm⟩
   | some l' =>
    rw [hd] at i1
    obtain ⟨f1, f2, f3⟩ := i1
    have g : ∀ i, i ≤ a → bitN l'.hash i = bitN l.hash i := fun i hi => f3 i (by omega)
    exact ⟨⟨r0, r1, f1, r3⟩, ⟨fun i hi => by rw [g i (by omega)]; exact s0 i hi, (fd_iff _ _ a r1).2 ⟨fun i hi => by rw [g i (by omega)]; exact hfd.1 i hi, by rw [g a (Nat.le_refl _)]; exact hfd.2⟩, by rw [g a (Nat.le_refl _)]; exact s2, f2, s4⟩, fun i _ => rfl⟩
  ·cases hd : dropT h r with
   | none => exact ⟨r2.up (by omega), s3, fun i hi => (s0 i hi).symm⟩
   | some r' =>
    rw [hd] at i2
    obtain ⟨f1, f2, f3⟩ := i2
    have g : ∀ i, i ≤ a → bitN r'.hash i = bitN r.hash i := fun i hi => f3 i (by omega)
    exact ⟨⟨r0, r1, r2, f1⟩, ⟨s0, (fd_iff _ _ a r1).2 ⟨fun i hi => by rw [g i (by omega)]; exact hfd.1 i hi, by rw [g a (Nat.le_refl _)]; exact hfd.2⟩, s2, s3, f2⟩, fun i _ => rfl⟩
end Go.Proofs.YtnhhnjmjodmacaaGreatDoor.Sha
