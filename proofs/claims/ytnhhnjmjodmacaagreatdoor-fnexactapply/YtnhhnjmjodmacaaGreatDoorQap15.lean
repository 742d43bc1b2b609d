/- What the proof of the claim needs (joined by program): BrU BrV BrPu BrWo Set4. -/
import Derived.Test.YtnhhnjmjodmacaaGreatDoorQap13
import Derived.Test.YtnhhnjmjodmacaaGreatDoorQap14
import Derived.Test.YtnhhnjmjodmacaaGreatDoorQap00
import Derived.Deep.RegionLaw
import Derived.Deep.QuietTactic
import Derived.BigQuiet
namespace Go.Proofs.YtnhhnjmjodmacaaGreatDoor.Sha
set_option maxRecDepth 100000
set_option maxHeartbeats 8000000
open Go.ChangeShapes Go.WideShapes Go.ChangeAt Go.RowKit
set_option linter.unusedVariables false
set_option linter.unusedSimpArgs false
def Rise : Nat → Tr → Prop
 | n, .leaf _ _ => n ≤ 256
 | n, .fork a _ l r => n ≤ a ∧ a < 256 ∧ Rise (a + 1) l ∧ Rise (a + 1) r
def Tr.at_ : Tr → Nat
 | .leaf _ _ => 256
 | .fork a _ _ _ => a
theorem Rise.le {n : Nat} {t : Tr} (h : Rise n t) : n ≤ t.at_ := by
 cases t with
 | leaf k v => exact h
 | fork a hh l r => exact h.1
theorem Rise.le256 {n : Nat} {t : Tr} (h : Rise n t) : t.at_ ≤ 256 := by
 cases t with
 | leaf k v => exact Nat.le_refl _
 | fork a hh l r => exact Nat.le_of_lt h.2.1
theorem readV_rise : ∀ (n : Nat) (b : Br), SizeOf.sizeOf b ≤ n → ∀ (least : Int) (room : Nat) (t : Tr) (r : Nat), 0 ≤ least → least ≤ 256 → readV b least room = some (t, r) → Rise least.toNat t := by
 intro n
 induction n with
 | zero => intro b hb; exact absurd hb (by cases b; simp only [Br.mk.sizeOf_spec]; omega)
 | succ n ih =>
  intro b hb least room t r hl hl2 h
  obtain ⟨k, v, a, ks⟩ := b
  by_cases ha : a = 256
  ·rw [readV_leaf ha] at h
   split at h
   ·cases h
    show least.toNat ≤ 256
    omega
   ·cases h
  ·by_cases hc : least ≤ a ∧ a ≤ 255 ∧ ks.length = 2 ∧ k.size = 0 ∧ v.size = 0
   ·obtain ⟨b0, b1, rfl⟩ := two_of hc.2.2.1
    rw [readV_fork ⟨hc.1, hc.2.1, hc.2.2.2.1, hc.2.2.2.2⟩] at h
    have z0 := kid_lt (k := k) (v := v) (a := a) (l := [b0, b1]) (b := b0) (by simp)
    have z1 := kid_lt (k := k) (v := v) (a := a) (l := [b0, b1]) (b := b1) (by simp)
    cases h0 : readV b0 (a + 1) room with
    | none => rw [h0] at h; cases h
    | some p0 =>
     obtain ⟨t0, r0⟩ := p0
     rw [h0] at h
     dsimp only at h
     cases h1 : readV b1 (a + 1) r0 with
     | none => rw [h1] at h; cases h
     | some p1 =>
      obtain ⟨t1, r1⟩ := p1
      rw [h1] at h
      dsimp only at h
      split at h
      ·cases h
       have e0 := ih b0 (by omega) _ _ _ _ (by omega) (by omega) h0
       have e1 := ih b1 (by omega) _ _ _ _ (by omega) (by omega) h1
       rw [show (a + 1).toNat = a.toNat + 1 by omega] at e0 e1
       exact ⟨by omega, by omega, e0, e1⟩
      ·cases h
   ·rw [readV_no ha hc] at h; cases h
def RiseO : Option Tr → Prop
 | none => True
 | some t => Rise 0 t
theorem mapV_rise {b : Br} {o : Option Tr} (h : mapV b = some o) : RiseO o := by
 unfold mapV at h
 split at h
 ·cases h; trivial
 ·cases hr : readV b 0 40 with
  | none => rw [hr] at h; cases h
  | some p =>
   obtain ⟨t, r⟩ := p
   rw [hr] at h
   cases h
   exact readV_rise _ b (Nat.le_refl _) 0 40 t r (by omega) (by omega) hr
def leadL (h : ByteArray) : Tr → ByteArray × ByteArray
 | .leaf k v => (k, v)
 | .fork a _ l r => if bitN h a = 0 then leadL h l else leadL h r
theorem lead_ok (h : ByteArray) : ∀ t, TrOK t → okK (leadL h t).1 = true ∧ (leadL h t).2.size ≤ 60
 | .leaf k v, ho => ho
 | .fork a hh l r, ho => by
  unfold leadL
  split
  ·exact lead_ok h l ho.2.2.1
  ·exact lead_ok h r ho.2.2.2
def atCell (v : Value) (w : World) : Nat := match v with
 | .pointer (some ad) => (match w.cell? ⟨ad.block, 3, none⟩ with
  | some (.int _ a) => a.toNat
  | _ => 0)
 | _ => 0
theorem atCell_is {p : Nat} {w : World} {a : Nat} (h : w.cell? ⟨p, 3, none⟩ = some (.int .i64 a)) : atCell (.pointer (some ⟨p, 0, none⟩)) w = a := by
 unfold atCell
 dsimp only
 rw [h]
 simp
theorem Nd.atC {w : World} {S : Nat → Prop} {p : Nat} {t : Tr} (h : Nd w S p t) : w.cell? ⟨p, 3, none⟩ = some (.int .i64 t.at_) := by
 cases h with
 | leaf S p k v h0 h1 => exact h1.cell 3 rfl
 | fork S Sl Sr p a h l r pl pr h0 h1 h2 h3 h4 => exact h4.cell 3 rfl
theorem lead_any (h : ByteArray) (hh : h.size = 32) (w : World) (S : Nat → Prop) (p : Nat) (t : Tr) (hn : Nd w S p t) (hr : Rise 0 t) :
  Calls Tryz.prog 141 #[.pointer (some ⟨p, 0, none⟩), .string h] w fun e w' => ∃ q, e = .returned (.pointer (some ⟨q, 0, none⟩)) ∧ Blk w' q (lfC (leadL h t).1 (leadL h t).2) ∧ ∃ n, w' = w.drewN n := by
 have HN := Hd hn
 have HR := Hd hr
 clear hn hr
 go_enter Tryz.func141, Tryz.ntmps141
 go_wp2_with fail
 go_loopw [0] (fun nv wr => ∃ (p' m : Nat) (t' : Tr) (S' : Nat → Prop), nv = .pointer (some ⟨p', 0, none⟩) ∧ Nd wr S' p' t' ∧ Rise m t' ∧ leadL h t' = leadL h t ∧ ∃ n, wr = w.drewN n) (fun nv wr => 256 - atCell nv wr)
 case atStart => exact ⟨p, 0, t, S, rfl, uh HN, uh HR, rfl, 0, rfl⟩
 case round =>
  clear HN HR
  obtain ⟨p', m, t', S', rfl, hn, hr, hl, n, hw⟩ := hrel
  have HW := Hd hw
  have HL := Hd hl
  have HA := Hd (atCell_is hn.atC)
  clear hw hl
  cases hn with
  | leaf S' p' k v h0 h1 =>
   have x3 := h1.cell 3 rfl
   have X := Hd h1
   clear h1 hr HA
   go_wp2_with fail
   go_ret
   refine ⟨p', rfl, ?_, n, uh HW⟩
   rw [← uh HL]
   exact uh X
  | fork S' Sl Sr p' a hv l r pl pr h0 h1 h2 h3 h4 h5 h6 =>
   obtain ⟨r0, r1, r2, r3⟩ := hr
   have x3 := h4.cell 3 rfl
   have x4 := h4.cell 4 rfl
   have x5 := h4.cell 5 rfl
   have HB := Hd (fun wx => hashBit_any h a wx hh r1)
   have ha : (a : Int) < 256 := by omega
   have HE : Hid (leadL h (.fork a hv l r) = if bitN h a = 0 then leadL h l else leadL h r) := rfl
   have HN5 := Hd h5
   have HN6 := Hd h6
   clear h1 h2 h3 h4 h5 h6 h0
   rcases bitN_01 h a with hb | hb
   ·rw [hb] at HB HE
    rw [if_pos rfl] at HE
    go_wp2_with fail
    go_quiet (first | (go_at_call 114; exact Calls.quiet_of_same (uh HB _)))
    have N2 := Hd ((uh HN5).blw (below_drewN (Below.refl _ wr) nq))
    have HW2 : Hid (∃ n', wr.drewN nq = w.drewN n') := Hd ⟨n + nq, by rw [uh HW, World.drewN_drewN]⟩
    generalize wr.drewN nq = w2 at *
    go_wp2_with fail
    have hat := atCell_is (uh N2).atC
    have hle := r2.le
    have hle2 := r2.le256
    have hA := uh HA
    refine ⟨⟨pl, a + 1, l, Sl, rfl, uh N2, r2, ?_, uh HW2⟩, ?_⟩
    ·rw [← uh HL, uh HE]
    ·rw [hat, hA]; show 256 - l.at_ < 256 - a; omega
   ·rw [hb] at HB HE
    rw [if_neg (by omega)] at HE
    go_wp2_with fail
    go_quiet (first | (go_at_call 114; exact Calls.quiet_of_same (uh HB _)))
    have N2 := Hd ((uh HN6).blw (below_drewN (Below.refl _ wr) nq))
    have HW2 : Hid (∃ n', wr.drewN nq = w.drewN n') := Hd ⟨n + nq, by rw [uh HW, World.drewN_drewN]⟩
    generalize wr.drewN nq = w2 at *
    go_wp2_with fail
    have hat := atCell_is (uh N2).atC
    have hle := r3.le
    have hle2 := r3.le256
    have hA := uh HA
    refine ⟨⟨pr, a + 1, r, Sr, rfl, uh N2, r3, ?_, uh HW2⟩, ?_⟩
    ·rw [← uh HL, uh HE]
    ·rw [hat, hA]; show 256 - r.at_ < 256 - a; omega
def FindR (o : Option Tr) (key : ByteArray) (w : World) (e : Ending) (w' : World) : Prop := ∃ qv, e = .returned (.pointer qv) ∧ Below w.heap.size w w' ∧
 ((qv = none ∧ ∀ t, o = some t → (leadL (kh key) t).1 ≠ key) ∨ ∃ t q, o = some t ∧ (leadL (kh key) t).1 = key ∧ qv = some ⟨q, 0, none⟩ ∧ Blk w' q (lfC key (leadL (kh key) t).2))
theorem find_any (key : ByteArray) (hk : key.size ≤ 24) (w : World) (S : Nat → Prop) (pv : Option Addr) (o : Option Tr) (hp : PtrM w S pv o) (hr : RiseO o) (ht : Tab w) :
  Calls Tryz.prog 131 #[.pointer pv, .string key] w fun e w' => FindR o key w e w' := by
 obtain ⟨cap, w1, hcv, hB, hb1⟩ := str_bytesB key w (by unfold maxLen; omega)
 have HH := Hd (implHash_any _ _ w1 hB (ht.below hb1).2 (ht.below hb1).1)
 have HV : Hid (kh key = hashV (bytesI key)) := rfl
 have hks := kh_size (k := key) (by omega)
 have B1 := Hd hb1
 have HPM := Hd (hp.blw hb1)
 clear hB ht hb1 hp
 cases o with
 | none =>
  obtain rfl : pv = none := uh HPM
  go_enter Tryz.func131, Tryz.ntmps131
  go_wp2_with fail
  refine (uh HH).mono ?_
  rintro e w2 ⟨rfl, hb2⟩
  have B2 := hbt B1 hb2
  clear hb2
  rw [← uh HV]
  have HLD : Hid (Calls Tryz.prog 141 #[.pointer none, .string (kh key)] w2 fun e w' => e = .returned (.pointer none) ∧ w' = w2) := Hd (by
   clear HH hcv
   generalize kh key = h at *
   go_enter Tryz.func141, Tryz.ntmps141
   go_wp2_with fail
   go_loopw [0] (fun nv wr => nv = .pointer none ∧ wr = w2) (fun _ _ => 0)
   case atStart => exact ⟨rfl, rfl⟩
   case round =>
    obtain ⟨rfl, hwr⟩ := hrel
    subst wr
    go_wp2_with fail
    go_ret
    exact ⟨rfl, rfl⟩)
  go_wp2_with fail
  refine (uh HLD).mono ?_
  rintro e w9 ⟨rfl, hw9⟩
  subst w9
  go_wp2_with fail
  go_ret
  exact ⟨none, rfl, uh B2, .inl ⟨rfl, fun t ht => by cases ht⟩⟩
 | some t =>
  obtain ⟨p, rfl, hn⟩ := uh HPM
  have HN := Hd hn
  have HR := Hd hr
  clear hn hr HPM
  go_enter Tryz.func131, Tryz.ntmps131
  go_wp2_with fail
  refine (uh HH).mono ?_
  rintro e w2 ⟨rfl, hb2⟩
  have B2 := hbt B1 hb2
  have N2 := Hd ((uh HN).blw hb2)
  clear hb2 HN HH hcv
  rw [← uh HV]
  have HLD := Hd (lead_any (kh key) hks w2 S p t (uh N2) (uh HR))
  have HF : Hid (∀ qv w', Below w.heap.size w w' → ((qv = none ∧ (leadL (kh key) t).1 ≠ key) ∨ ∃ q, (leadL (kh key) t).1 = key ∧ qv = some ⟨q, 0, none⟩ ∧ Blk w' q (lfC key (leadL (kh key) t).2)) → FindR (some t) key w (.returned (.pointer qv)) w') := Hd (fun qv w' hb h => by
   refine ⟨qv, rfl, hb, ?_⟩
   rcases h with ⟨h1, h2⟩ | ⟨q, h1, h2, h3⟩
   ·exact .inl ⟨h1, fun t' ht => by cases ht; exact h2⟩
   ·exact .inr ⟨t, q, rfl, h1, h2, h3⟩)
  generalize leadL (kh key) t = kv at *
  obtain ⟨k, v⟩ := kv
  dsimp only at HLD HF
  clear HV hks
  generalize kh key = h at *
  go_wp2_with fail
  refine (uh HLD).mono ?_
  rintro e w3 ⟨q, rfl, hq, n, hw3⟩
  have B3 : Hid (Below w.heap.size w w3) := Hd (by rw [hw3]; exact below_drewN (uh B2) n)
  have X3 := Hd hq
  have x0 := hq.cell 0 rfl
  clear hq hw3 HLD
  by_cases hkk : k = key
  ·have hb := list_eq hkk
   have HK := Hd hkk
   clear hkk
   go_wp2_with fail
   go_ret
   refine uh HF _ w3 (uh B3) (.inr ⟨q, uh HK, rfl, ?_⟩)
   have := uh X3
   rw [uh HK] at this
   exact this
  ·have hb := list_ne hkk
   have HK := Hd hkk
   clear hkk
   go_wp2_with fail
   go_ret
   exact uh HF _ w3 (uh B3) (.inl ⟨rfl, uh HK⟩)
def getV (o : Option Tr) (key : ByteArray) : Option ByteArray := match o with
 | none => none
 | some t => if (leadL (kh key) t).1 = key then some (leadL (kh key) t).2 else none
def Tr.lvN : Tr → Nat
 | .leaf _ _ => 1
 | .fork _ _ l r => l.lvN + r.lvN
def Sep : Tr → Prop
 | .leaf _ _ => True
 | .fork a h l r => (∀ i, i < a → bitN h i = bitN l.hash i) ∧ fd l.hash r.hash = a ∧ bitN l.hash a = 0 ∧ Sep l ∧ Sep r
theorem readV_sep : ∀ (n : Nat) (b : Br), SizeOf.sizeOf b ≤ n → ∀ (least : Int) (room : Nat) (t : Tr) (r : Nat), readV b least room = some (t, r) → Sep t ∧ r + t.lvN = room := by
 intro n
 induction n with
 | zero => intro b hb; exact absurd hb (by cases b; simp only [Br.mk.sizeOf_spec]; omega)
 | succ n ih =>
  intro b hb least room t r h
  obtain ⟨k, v, a, ks⟩ := b
  by_cases ha : a = 256
  ·rw [readV_leaf ha] at h
   split at h
   ·rename_i hc
    cases h
    exact ⟨trivial, by show room - 1 + 1 = room; omega⟩
   ·cases h
  ·by_cases hc : least ≤ a ∧ a ≤ 255 ∧ ks.length = 2 ∧ k.size = 0 ∧ v.size = 0
   ·obtain ⟨b0, b1, rfl⟩ := two_of hc.2.2.1
    rw [readV_fork ⟨hc.1, hc.2.1, hc.2.2.2.1, hc.2.2.2.2⟩] at h
    have z0 := kid_lt (k := k) (v := v) (a := a) (l := [b0, b1]) (b := b0) (by simp)
    have z1 := kid_lt (k := k) (v := v) (a := a) (l := [b0, b1]) (b := b1) (by simp)
    cases h0 : readV b0 (a + 1) room with
    | none => rw [h0] at h; cases h
    | some p0 =>
     obtain ⟨t0, r0⟩ := p0
     rw [h0] at h
     dsimp only at h
     cases h1 : readV b1 (a + 1) r0 with
     | none => rw [h1] at h; cases h
     | some p1 =>
      obtain ⟨t1, r1⟩ := p1
      rw [h1] at h
      dsimp only at h
      split at h
      ·rename_i hf
       cases h
       obtain ⟨e0, n0⟩ := ih b0 (by omega) _ _ _ _ h0
       obtain ⟨e1, n1⟩ := ih b1 (by omega) _ _ _ _ h1
       exact ⟨⟨fun _ _ => rfl, hf.1, hf.2, e0, e1⟩, by show r + (t0.lvN + t1.lvN) = room; omega⟩
      ·cases h
   ·rw [readV_no ha hc] at h; cases h
def SepO : Option Tr → Prop
 | none => True
 | some t => Sep t ∧ t.lvN ≤ 40
theorem mapV_sep {b : Br} {o : Option Tr} (h : mapV b = some o) : SepO o := by
 unfold mapV at h
 split at h
 ·cases h; trivial
 ·cases hr : readV b 0 40 with
  | none => rw [hr] at h; cases h
  | some p =>
   obtain ⟨t, r⟩ := p
   rw [hr] at h
   cases h
   obtain ⟨h1, h2⟩ := readV_sep _ b (Nat.le_refl _) 0 40 t r hr
   exact ⟨h1, by omega⟩
theorem fdF_comm (x y : ByteArray) : ∀ n i, fdF x y n i = fdF y x n i
 | 0, i => rfl
 | n + 1, i => by
  unfold fdF
  by_cases h : bitN x i = bitN y i
  ·rw [if_pos h, if_pos h.symm, fdF_comm x y n]
  ·rw [if_neg h, if_neg (fun e => h e.symm)]
theorem fd_comm (x y : ByteArray) : fd x y = fd y x := fdF_comm x y 256 0
theorem lead_alike (h : ByteArray) : ∀ (t : Tr) (m : Nat), Rise m t → Sep t → ∀ i, i < t.at_ → bitN (kh (leadL h t).1) i = bitN t.hash i
 | .leaf k v, m, hr, hs, i, hi => rfl
 | .fork a hh l r, m, hr, hs, i, hi => by
  obtain ⟨r0, r1, r2, r3⟩ := hr
  obtain ⟨s0, s1, s2, s3, s4⟩ := hs
  have hi' : i < a := hi
  have hl := r2.le
  have hrr := r3.le
  unfold leadL
  split
  ·rw [lead_alike h l _ r2 s3 i (by omega)]
   show _ = bitN hh i
   rw [s0 i hi']
  ·rw [lead_alike h r _ r3 s4 i (by omega)]
   show _ = bitN hh i
   rw [s0 i hi']
   exact (((fd_iff l.hash r.hash a r1).1 s1).1 i hi').symm
theorem lead_bit (h : ByteArray) {a : Nat} {hh : ByteArray} {l r : Tr} {m : Nat} (hr : Rise m (.fork a hh l r)) (hs : Sep (.fork a hh l r)) : bitN (kh (leadL h (.fork a hh l r)).1) a = bitN h a := by
 obtain ⟨r0, r1, r2, r3⟩ := hr
 obtain ⟨s0, s1, s2, s3, s4⟩ := hs
 have hl := r2.le
 have hrr := r3.le
 unfold leadL
 split
 ·rename_i hb
  rw [lead_alike h l _ r2 s3 a (by omega), s2, hb]
 ·rename_i hb
  rw [lead_alike h r _ r3 s4 a (by omega)]
  have h1 := ((fd_iff l.hash r.hash a r1).1 s1).2
  rcases bitN_01 r.hash a with e | e
  ·exact absurd (s2.trans e.symm) h1
  ·rcases bitN_01 h a with e' | e'
   ·exact absurd e' hb
   ·rw [e, e']
def forkT (a : Nat) (h k v : ByteArray) (t : Tr) : Tr := if bitN h a = 0 then .fork a h (.leaf k v) t else .fork a h t (.leaf k v)
def putT (h : ByteArray) (at_ : Nat) (k v : ByteArray) : Tr → Tr
 | .leaf k' v' => if at_ = 256 then .leaf k v else forkT at_ h k v (.leaf k' v')
 | .fork a hh l r => if a < at_ then (if bitN h a = 0 then .fork a hh (putT h at_ k v l) r else .fork a hh l (putT h at_ k v r)) else forkT at_ h k v (.fork a hh l r)
theorem forkT_ok {a : Nat} {h k v : ByteArray} {t : Tr} (ha : a < 256) (hh : h.size = 32) (hk : okK k = true) (hv : v.size ≤ 60) (ht : TrOK t) : TrOK (forkT a h k v t) := by
 unfold forkT; split
 ·exact ⟨ha, hh, ⟨hk, hv⟩, ht⟩
 ·exact ⟨ha, hh, ht, ⟨hk, hv⟩⟩
theorem putT_ok (h : ByteArray) (a : Nat) (k v : ByteArray) (ha : a ≤ 256) (hh : h.size = 32) (hk : okK k = true) (hv : v.size ≤ 60) : ∀ t, TrOK t → TrOK (putT h a k v t)
 | .leaf k' v', ho => by
  unfold putT; split
  ·exact ⟨hk, hv⟩
  ·exact forkT_ok (by omega) hh hk hv ho
 | .fork b hb l r, ho => by
  unfold putT; split
  ·split
   ·exact ⟨ho.1, ho.2.1, putT_ok h a k v ha hh hk hv l ho.2.2.1, ho.2.2.2⟩
   ·exact ⟨ho.1, ho.2.1, ho.2.2.1, putT_ok h a k v ha hh hk hv r ho.2.2.2⟩
  ·exact forkT_ok (by have := ho.1; omega) hh hk hv ho
def WithR (S : Nat → Prop) (q : Nat) (t : Tr) (w : World) (e : Ending) (w' : World) : Prop := ∃ p, e = .returned (.pointer (some ⟨p, 0, none⟩)) ∧ Nd w' (fun b => S b ∨ b = q ∨ (w.heap.size ≤ b ∧ b < w'.heap.size)) p t ∧ Touch S w w'
theorem newFork_nd {w : World} {S : Nat → Prop} {p q a : Nat} {t : Tr} {k v : ByteArray} (hn : Nd w S p t) (ho : t.hash.size = 32) (hS : ∀ b, S b → b < w.heap.size) (hq : Blk w q (lfC k v)) (hqS : ¬ S q) (hk : k.size ≤ 65536) (ha : a < 256) (hxy : bitN (kh k) a ≠ bitN t.hash a) :
  Calls Tryz.prog 115 #[.int .i64 a, .pointer (some ⟨q, 0, none⟩), .pointer (some ⟨p, 0, none⟩)] w fun e w' => WithR S q (forkT a (kh k) k v t) w e w' := by
 refine (newFork_any a q p (kh k) t.hash w ha (kh_size hk) ho hxy hq.1 hn.here.2 (hq.cell 2 rfl) hn.hashC).mono ?_
 rintro e w' ⟨f, rfl, hf, hB, hb⟩
 have hq' := hq.1
 have hnq := hq.below hb
 have hnn := hn.blw hb
 refine ⟨f, rfl, ?_, Touch.ofBelow hb⟩
 have hfl := hB.1
 unfold forkT
 unfold kidsV at hB
 by_cases hb0 : bitN (kh k) a = 0
 ·rw [if_pos hb0] at hB ⊢
  exact .fork _ (fun b => b = q) S f a (kh k) (.leaf k v) t q p (.inr (.inr ⟨hf, hfl⟩)) (fun b e => ⟨.inr (.inl e), by omega⟩) (fun b e => ⟨.inl e, by have := hS b e; omega⟩) (fun b e h => hqS (e ▸ h)) hB (.leaf _ q k v rfl hnq) hnn
 ·rw [if_neg hb0] at hB ⊢
  exact .fork _ S (fun b => b = q) f a (kh k) t (.leaf k v) p q (.inr (.inr ⟨hf, hfl⟩)) (fun b e => ⟨.inl e, by have := hS b e; omega⟩) (fun b e => ⟨.inr (.inl e), by omega⟩) (fun b e h => hqS (h ▸ e)) hB hnn (.leaf _ q k v rfl hnq)
theorem hash_of_ok {t : Tr} (h : TrOK t) : t.hash.size = 32 := by
 cases t with
 | leaf k v => exact kh_size (by have := (okK_iff.1 h.1).2; omega)
 | fork a hh l r => exact h.2.1
def dropT (h : ByteArray) : Tr → Option Tr
 | .leaf _ _ => none
 | .fork a hh l r => if bitN h a = 0 then (match dropT h l with | none => some r | some l' => some (.fork a hh l' r)) else (match dropT h r with | none => some l | some r' => some (.fork a hh l r'))
theorem dropT_ok (h : ByteArray) : ∀ (t : Tr), TrOK t → OkO (dropT h t)
 | .leaf _ _, ho => trivial
 | .fork a hh l r, ho => by
  have h1 := dropT_ok h l ho.2.2.1
  have h2 := dropT_ok h r ho.2.2.2
  unfold dropT
  split
  ·cases he : dropT h l with
   | none => exact ho.2.2.2
   | some l' => rw [he] at h1; exact ⟨ho.1, ho.2.1, h1, ho.2.2.2⟩
  ·cases he : dropT h r with
   | none => exact ho.2.2.1
   | some r' => rw [he] at h2; exact ⟨ho.1, ho.2.1, ho.2.2.1, h2⟩
def DropR (S : Nat → Prop) (o : Option Tr) (w : World) (e : Ending) (w' : World) : Prop := ∃ pv, e = .returned (.pointer pv) ∧ PtrM w' S pv o ∧ Touch S w w'
theorem without_any (h : ByteArray) (hh : h.size = 32) : ∀ (t : Tr) (m : Nat) (w : World) (S : Nat → Prop) (p : Nat), Nd w S p t → Rise m t →
  Calls Tryz.prog 133 #[.pointer (some ⟨p, 0, none⟩), .string h] w fun e w' => DropR S (dropT h t) w e w' := by
 intro t
 induction t with
 | leaf k v =>
  intro m w S p hn hr
  cases hn with
  | leaf S p k v h0 h1 =>
   have x3 := h1.cell 3 rfl
   have HG : Hid (DropR S (dropT h (.leaf k v)) w (.returned (.pointer none)) w) := Hd ⟨none, rfl, rfl, Touch.refl _ _⟩
   clear h1 hr
   go_enter Tryz.func133, Tryz.ntmps133
   go_wp2_with fail
   go_ret
   exact uh HG
 | fork a hv l r ihl ihr =>
  intro m w S p hn hr
  cases hn with
  | fork S Sl Sr p a hv l r pl pr h0 h1 h2 h3 h4 h5 h6 =>
   obtain ⟨r0, r1, r2, r3⟩ := hr
   have X := Hd h4
   have x3 := h4.cell 3 rfl
   have x4 := h4.cell 4 rfl
   have x5 := h4.cell 5 rfl
   have HB := Hd (fun wx => hashBit_any h a wx hh r1)
   have hab : ((a : Int) == 256) = false := by rw [beq_eq_false_iff_ne]; omega
   have HN5 := Hd h5
   have HN6 := Hd h6
   have HS := Hd (And.intro h0 (And.intro h1 (And.intro h2 h3)))
   clear h1 h2 h3 h4 h5 h6 h0
   rcases bitN_01 h a with hb | hb
   ·have HC := Hd (ihl _ w Sl pl (uh HN5) r2)
    have HD : Hid (dropT h (.fork a hv l r) = match dropT h l with | none => some r | some l' => some (.fork a hv l' r)) := Hd (by conv => lhs; unfold dropT; rw [if_pos hb])
    rw [hb] at HB
    have hwr : IntKind.i64.wrap (1 : Int) = 1 := by decide
    clear ihl ihr
    generalize dropT h (.fork a hv l r) = D at *
    generalize dropT h l = d at *
    go_enter Tryz.func133, Tryz.ntmps133
    go_wp2_with fail
    refine (uh HB w).mono ?_
    rintro e w9 ⟨rfl, hw9⟩
    subst w9
    go_wp2_with fail
    refine (uh HC).mono ?_
    rintro e w2 ⟨pv, rfl, hp, hT⟩
    have X2 := (uh X).kept hT (fun e => ((uh HS).2.1 p e).2 rfl)
    have NO2 := (uh HN6).touch hT (fun b hb e => (uh HS).2.2.2 b e hb)
    have TS : Touch S w w2 := (Touch.refl S w).trans hT (fun b _ e => ((uh HS).2.1 b e).1)
    have y5 := X2.cell 5 rfl
    have y4 := X2.cell 4 rfl
    have g4 := X2.fro 4
    have HD2 := Hd (uh HD)
    clear x3 x4 x5 HC
    cases d with
    | none =>
     obtain rfl : pv = none := hp
     have HF : Hid (DropR S D w (.returned (.pointer (some ⟨pr, 0, none⟩))) w2) := Hd ⟨_, rfl, by rw [show D = some r from uh HD]; exact ⟨pr, rfl, NO2.mono (fun b hb => ((uh HS).2.2.1 b hb).1)⟩, TS⟩
     clear NO2 TS X2 hT
     go_wp2_with fail
     go_ret
     exact uh HF
    | some d' =>
     obtain ⟨q, rfl, hq⟩ := hp
     have HF : Hid (DropR S D w (.returned (.pointer (some ⟨p, 0, none⟩))) (w2.setCell ⟨p, 4, none⟩ (.pointer (some ⟨q, 0, none⟩)))) := Hd (by
      have XS := X2.set 4 (.pointer (some ⟨q, 0, none⟩)) (by simp [fkC])
      have tp := (Touch.refl (fun b => b = p) w2).setCell ⟨p, 4, none⟩ (.pointer (some ⟨q, 0, none⟩)) (fun _ => rfl)
      have NK := hq.touch tp (fun b hb e => ((uh HS).2.1 b hb).2 e)
      have NO := NO2.touch tp (fun b hb e => ((uh HS).2.2.1 b hb).2 e)
      refine ⟨_, rfl, ?_, TS.trans tp (fun b _ e => by rw [e]; exact (uh HS).1)⟩
      rw [show D = some (.fork a hv d' r) from uh HD]
      exact ⟨p, rfl, .fork S Sl Sr p a hv d' r q pr (uh HS).1 (uh HS).2.1 (uh HS).2.2.1 (uh HS).2.2.2 XS NK NO⟩)
     clear hq NO2 TS X2 hT
     go_wp2_with fail
     go_ret
     exact uh HF
   ·have HC := Hd (ihr _ w Sr pr (uh HN6) r3)
    have HD : Hid (dropT h (.fork a hv l r) = match dropT h r with | none => some l | some r' => some (.fork a hv l r')) := Hd (by conv => lhs; unfold dropT; rw [if_neg (by omega)])
    rw [hb] at HB
    have hwr : IntKind.i64.wrap (0 : Int) = 0 := by decide
    clear ihl ihr
    generalize dropT h (.fork a hv l r) = D at *
    generalize dropT h r = d at *
    go_enter Tryz.func133, Tryz.ntmps133
    go_wp2_with fail
    refine (uh HB w).mono ?_
    rintro e w9 ⟨rfl, hw9⟩
    subst w9
    go_wp2_with fail
    refine (uh HC).mono ?_
    rintro e w2 ⟨pv, rfl, hp, hT⟩
    have X2 := (uh X).kept hT (fun e => ((uh HS).2.2.1 p e).2 rfl)
    have NO2 := (uh HN5).touch hT (fun b hb e => (uh HS).2.2.2 b hb e)
    have TS : Touch S w w2 := (Touch.refl S w).trans hT (fun b _ e => ((uh HS).2.2.1 b e).1)
    have y4 := X2.cell 4 rfl
    have y5 := X2.cell 5 rfl
    have g5 := X2.fro 5
    have HD2 := Hd (uh HD)
    clear x3 x4 x5 HC
    cases d with
    | none =>
     obtain rfl : pv = none := hp
     have HF : Hid (DropR S D w (.returned (.pointer (some ⟨pl, 0, none⟩))) w2) := Hd ⟨_, rfl, by rw [show D = some l from uh HD]; exact ⟨pl, rfl, NO2.mono (fun b hb => ((uh HS).2.1 b hb).1)⟩, TS⟩
     clear NO2 TS X2 hT
     go_wp2_with fail
     go_ret
     exact uh HF
    | some d' =>
     obtain ⟨q, rfl, hq⟩ := hp
     have HF : Hid (DropR S D w (.returned (.pointer (some ⟨p, 0, none⟩))) (w2.setCell ⟨p, 5, none⟩ (.pointer (some ⟨q, 0, none⟩)))) := Hd (by
      have XS := X2.set 5 (.pointer (some ⟨q, 0, none⟩)) (by simp [fkC])
      have tp := (Touch.refl (fun b => b = p) w2).setCell ⟨p, 5, none⟩ (.pointer (some ⟨q, 0, none⟩)) (fun _ => rfl)
      have NK := hq.touch tp (fun b hb e => ((uh HS).2.2.1 b hb).2 e)
      have NO := NO2.touch tp (fun b hb e => ((uh HS).2.1 b hb).2 e)
      refine ⟨_, rfl, ?_, TS.trans tp (fun b _ e => by rw [e]; exact (uh HS).1)⟩
      rw [show D = some (.fork a hv l d') from uh HD]
      exact ⟨p, rfl, .fork S Sl Sr p a hv l d' pl q (uh HS).1 (uh HS).2.1 (uh HS).2.2.1 (uh HS).2.2.2 XS NO NK⟩)
     clear hq NO2 TS X2 hT
     go_wp2_with fail
     go_ret
     exact uh HF
end Go.Proofs.YtnhhnjmjodmacaaGreatDoor.Sha
namespace Go.Proofs.YtnhhnjmjodmacaaGreatDoor.Sha
set_option maxRecDepth 100000
set_option maxHeartbeats 8000000
open Go.ChangeShapes Go.WideShapes Go.ChangeAt Go.RowKit
set_option linter.unusedVariables false
def set4 (w : World) (R : Nat) (a b c d : Value) : World := (((w.setCell ⟨R, 0, none⟩ a).setCell ⟨R, 1, none⟩ b).setCell ⟨R, 2, none⟩ c).setCell ⟨R, 3, none⟩ d
theorem set4_touch (w : World) (R : Nat) (a b c d : Value) : Touch (fun x => x = R) w (set4 w R a b c d) :=
 ((((Touch.refl (fun x => x = R) w).setCell ⟨R, 0, none⟩ a (fun _ => rfl)).setCell ⟨R, 1, none⟩ b (fun _ => rfl)).setCell ⟨R, 2, none⟩ c (fun _ => rfl)).setCell ⟨R, 3, none⟩ d (fun _ => rfl)
theorem set4_blk {w : World} {R : Nat} {x0 x1 x2 x3 : Value} (h : Blk w R [x0, x1, x2, x3]) (a b c d : Value) : Blk (set4 w R a b c d) R [a, b, c, d] :=
 (((h.set 0 a (by simp)).set 1 b (by simp)).set 2 c (by simp)).set 3 d (by simp)
end Go.Proofs.YtnhhnjmjodmacaaGreatDoor.Sha
