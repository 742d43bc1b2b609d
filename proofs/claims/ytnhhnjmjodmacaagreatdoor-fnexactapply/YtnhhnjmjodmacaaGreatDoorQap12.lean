/- What the proof of the claim needs (joined by program): BrD BrM. -/
import Derived.Test.YtnhhnjmjodmacaaGreatDoorQap11
namespace Go.Proofs.YtnhhnjmjodmacaaGreatDoor.Sha
set_option maxRecDepth 100000
set_option maxHeartbeats 8000000
open Go.ChangeShapes Go.WideShapes Go.ChangeAt Go.RowKit
set_option linter.unusedVariables false
set_option linter.unusedSimpArgs false
def NodeQ (b : Br) (least : Int) (room rb : Nat) (w : World) (pv : Option Addr) (w' : World) : Prop :=
 Touch (fun x => x = rb) w w' ∧ ((readV b least room = none ∧ pv = none) ∨ ∃ t r p, readV b least room = some (t, r) ∧ pv = some ⟨p, 0, none⟩ ∧ Nd w' (fun x => w.heap.size ≤ x ∧ x < w'.heap.size) p t ∧ Blk w' rb [.int .i64 (r : Nat)])
def NodeR (b : Br) (least : Int) (room rb : Nat) (w : World) (e : Ending) (w' : World) : Prop := ∃ pv, e = .returned (.pointer pv) ∧ NodeQ b least room rb w pv w'
theorem NodeR.no {b : Br} {least : Int} {room rb : Nat} {w w' : World} (h : readV b least room = none) (ht : Touch (fun x => x = rb) w w') : NodeR b least room rb w (.returned (.pointer none)) w' := ⟨none, rfl, ht, .inl ⟨h, rfl⟩⟩
theorem NodeR.yes {b : Br} {least : Int} {room rb r p : Nat} {t : Tr} {w w' : World} (h : readV b least room = some (t, r)) (h1 : Nd w' (fun x => w.heap.size ≤ x ∧ x < w'.heap.size) p t) (h2 : Blk w' rb [.int .i64 r]) (ht : Touch (fun x => x = rb) w w') : NodeR b least room rb w (.returned (.pointer (some ⟨p, 0, none⟩))) w' := ⟨_, rfl, ht, .inr ⟨t, r, p, h, rfl, h1, h2⟩⟩
theorem LeafR.node {k v : ByteArray} {a least : Int} {ks : List Br} {room rb : Nat} {w w1 w' : World} {e : Ending} (ha : a = 256) (h : LeafR k v ks.length room rb w1 e w') (hw : w.heap.size ≤ w1.heap.size) (ht : Touch (fun x => x = rb) w w1) : NodeR (.mk k v a ks) least room rb w e w' := by
 unfold LeafR at h
 obtain ⟨h1, h2⟩ := h
 have hT : Touch (fun x => x = rb) w w' := ht.trans h2 (fun _ _ h => h)
 by_cases hc : okK k = true ∧ v.size ≤ 60 ∧ ks.length = 0 ∧ room ≠ 0
 ·rw [if_pos hc] at h1
  obtain ⟨p, rfl, h3, h4, h5⟩ := h1
  exact NodeR.yes (by rw [readV_leaf ha, if_pos hc]) (.leaf _ p k v ⟨Nat.le_trans hw h3, h4.1⟩ h4) h5 hT
 ·rw [if_neg hc] at h1
  subst h1
  exact NodeR.no (by rw [readV_leaf ha, if_neg hc]) hT
theorem tr_size {b : Br} {least : Int} {room r : Nat} {t : Tr} (h0 : 0 ≤ least) (h : readV b least room = some (t, r)) : t.hash.size = 32 := by
 obtain ⟨_, h2⟩ := readV_facts _ b (Nat.le_refl _) least room t r h0 h
 obtain ⟨_, h4, h5⟩ := h2 256 (by omega)
 rw [← h5]
 exact kh_size (by have := okK_iff.1 h4; omega)
theorem wrapMi (a : Int) {least : Int} (h0 : least ≤ a) (h1 : a ≤ 255) (h2 : 0 ≤ least) : IntKind.i64.wrap (a + 1) = a + 1 := by
 simp only [IntKind.wrap, IntKind.bits, IntKind.signed]
 simp
 omega
theorem empty_size {k : ByteArray} (h : k.size = 0) : k = ⟨#[]⟩ := by
 obtain ⟨⟨l⟩⟩ := k
 have : l.length = 0 := h
 rw [List.eq_nil_of_length_eq_zero this]
theorem ne_empty {k : ByteArray} (h : k ≠ ⟨#[]⟩) : k.toList.isEmpty = false := by
 cases hb : k.toList.isEmpty
 ·rfl
 ·exact absurd (empty_size (emptyB_iff.1 hb)) h

theorem node_any : ∀ (n : Nat) (b : Br), SizeOf.sizeOf b ≤ n → ∀ (S : Nat → Prop) (least : Int) (room rb : Nat) (kv : Value) (w0 w : World), Brs S w kv b.kids → (∀ x, S x → x ≠ rb) → b.key.size ≤ maxLen → b.val.size ≤ maxLen → 0 ≤ least → Blk w rb [.int .i64 room] → room ≤ 40 → Tab w0 → Below w0.heap.size w0 w → w0.heap.size ≤ rb →
  Calls Tryz.prog 97 #[.pointer (some ⟨rb, 0, none⟩), .agg #[.string b.key, .string b.val, .int .i64 b.at_, kv], .int .i64 least] w fun e w' => NodeR b least room rb w e w' := by
 intro n
 induction n with
 | zero => intro b hb; exact absurd hb (by cases b; simp only [Br.mk.sizeOf_spec]; omega)
 | succ n ih =>
  intro b hsz S least room rb kv w0 w hB hS hk hv hl0 hR hroom ht hb0 hrb
  obtain ⟨k, v, a, ks⟩ := b
  simp only [Br.key, Br.val, Br.at_, Br.kids] at *
  obtain ⟨sa, cap, rfl, hcap, hcm⟩ := hB.shape
  have X0 := Hd (Blk.new w #[.string k, .string v, .int .i64 a, .slice sa ks.length cap] 35 w.heap.size rfl)
  have T0 := Hd ((Touch.refl (fun x => x = rb) w).alloc (.cells #[.string k, .string v, .int .i64 a, .slice sa ks.length cap] 35))
  have R0 := Hd (hR.alloc (.cells #[.string k, .string v, .int .i64 a, .slice sa ks.length cap] 35))
  have B0 := Hd (hb0.alloc hb0.size (.cells #[.string k, .string v, .int .i64 a, .slice sa ks.length cap] 35))
  have HBR := Hd (hB.touch (uh T0) (fun x hx h => hS x hx h))
  have hz1 : w.heap.size < (w.alloc (.cells #[.string k, .string v, .int .i64 a, .slice sa ks.length cap] 35)).heap.size := by simp
  have HT := Hd ht
  have hrw := hR.1
  have hw0 := hb0.size
  have hlm : ks.length ≤ 9223372036854775807 := by unfold maxLen at hcm; omega
  have HIH := Hd ih
  have HSS := Hd hS
  have HSZ := Hd hsz
  have HKV := Hd (And.intro hk hv)
  have hXr : w.heap.size ≠ rb := by omega
  clear hB hR ht hb0 ih hS hsz
  by_cases ha : a = 256
  ·have HLF := Hd (leaf_any k v a sa ks.length cap rb room w0 (w.alloc (.cells #[.string k, .string v, .int .i64 a, .slice sa ks.length cap] 35)) hk hv (by omega) (uh R0) hroom (uh HT) (uh B0) hrb)
   have HNR := Hd (fun e w' h => LeafR.node (k := k) (v := v) (least := least) (ks := ks) (room := room) (rb := rb) (w := w) (w1 := w.alloc (.cells #[.string k, .string v, .int .i64 a, .slice sa ks.length cap] 35)) (w' := w') (e := e) ha h (Nat.le_of_lt hz1) (uh T0))
   have HA := Hd ha
   have hab : (a == 256) = true := by simpa using ha
   clear ha hk hv
   go_enter Tryz.func97, Tryz.ntmps97
   go_wp2_with fail
   refine (uh HLF).mono ?_
   rintro e w2 hlr
   have HE := Hd (uh HNR e w2 hlr)
   have HES : Hid (∃ pv, e = .returned (.pointer pv)) := Hd (by
    unfold LeafR at hlr
    obtain ⟨h1, _⟩ := hlr
    split at h1
    ·obtain ⟨p, h2, _⟩ := h1; exact ⟨_, h2⟩
    ·exact ⟨_, h1⟩)
   clear hlr HLF HNR
   obtain ⟨pv, rfl⟩ := uh HES
   go_wp2_with fail
   go_ret
   exact uh HE
  have hab : (a == 256) = false := by simpa using ha
  have HNO := Hd (fun h w' ht => NodeR.no (b := .mk k v a ks) (least := least) (room := room) (rb := rb) (w := w) (w' := w') (readV_no ha h) ht)
  have HA := Hd ha
  have HI := Hd (inB_iff (n := a) (lo := least) (hi := 255))
  have HW := Hd (fun wx => within_any a least 255 wx)
  generalize inB a least 255 = b1 at *
  clear ha hk hv
  go_enter Tryz.func97, Tryz.ntmps97
  go_wp2_with fail
  generalize w.alloc (.cells #[.string k, .string v, .int .i64 a, .slice sa ks.length cap] 35) = w1 at *
  have x0 := (uh X0).cell 0 rfl
  have x1 := (uh X0).cell 1 rfl
  have x2 := (uh X0).cell 2 rfl
  have x3 := (uh X0).cell 3 rfl
  refine (uh HW w1).mono ?_
  rintro e w9 ⟨rfl, hw9⟩
  subst w9
  cases b1
  ·go_wp2_with fail
   go_ret
   exact uh HNO (fun h => by have := (uh HI).2 ⟨h.1, h.2.1⟩; cases this) _ (uh T0)
  obtain ⟨ha0, ha1⟩ := (uh HI).1 rfl
  by_cases h2 : ks.length = 2
  case neg =>
   have h2b : ((ks.length : Int) != 2) = true := by simp; omega
   have H2 := Hd h2
   clear h2
   go_wp2_with fail
   go_ret
   exact uh HNO (fun h => uh H2 h.2.2.1) _ (uh T0)
  have h2b : ((ks.length : Int) != 2) = false := by simp; omega
  by_cases hk0 : k = ⟨#[]⟩
  case neg =>
   have H2 := Hd hk0
   have hkb := ne_empty hk0
   clear h2
   go_wp2_with fail
   go_ret
   exact uh HNO (fun h => uh H2 (empty_size h.2.2.2.1)) _ (uh T0)
  by_cases hv0 : v = ⟨#[]⟩
  case neg =>
   have H2 := Hd hv0
   have hvb := ne_empty hv0
   subst hk0
   clear h2
   go_wp2_with fail
   go_ret
   exact uh HNO (fun h => uh H2 (empty_size h.2.2.2.2)) _ (uh T0)
  subst hk0 hv0
  obtain ⟨b0, b1, rfl⟩ := two_of h2
  obtain ⟨bb, off, kvf, rfl, _, hat⟩ := (uh HBR).at (by simp)
  have hbb := hat.lt
  have hbr : bb ≠ rb := uh HSS bb hat.here
  obtain ⟨s00, s01, s02, s03⟩ := hat.cells 0 (by simp)
  obtain ⟨s10, s11, s12, s13⟩ := hat.cells 1 (by simp)
  have K0 := Hd (hat.kids 0 (by simp))
  have K1 := Hd (hat.kids 1 (by simp))
  have Z0 := Hd (hat.small 0 (by simp))
  have Z1 := Hd (hat.small 1 (by simp))
  simp only [List.getD_cons_zero, List.getD_cons_succ, Nat.zero_mul, Nat.add_zero, Nat.one_mul] at s00 s01 s02 s03 s10 s11 s12 s13 K0 K1 Z0 Z1
  obtain ⟨ka0, kc0, hkv0, _, _⟩ := (uh K0).shape
  obtain ⟨ka1, kc1, hkv1, _, _⟩ := (uh K1).shape
  rw [hkv0] at K0 s03
  rw [hkv1] at K1 s13
  have z0 := kid_lt (k := ⟨#[]⟩) (v := ⟨#[]⟩) (a := a) (l := [b0, b1]) (b := b0) (by simp)
  have z1 := kid_lt (k := ⟨#[]⟩) (v := ⟨#[]⟩) (a := a) (l := [b0, b1]) (b := b1) (by simp)
  have hszz := uh HSZ
  have hB1 := (uh B0)
  have HH0 := Hd (fun wx (hx : Below w1.heap.size w1 wx) => uh HIH b0 (by omega) S (a + 1) room rb (.slice ka0 b0.kids.length kc0) w0 wx ((uh K0).blw hx) (uh HSS) (uh Z0).1 (uh Z0).2 (by omega) ((uh R0).below hx) hroom (uh HT) (hB1.trans (hx.mono hB1.size)) hrb)
  have HH1 := Hd (fun (r0 : Nat) wx (hr0 : r0 ≤ 40) (hx : Touch (fun x => x = rb) w1 wx) (hR : Blk wx rb [.int .i64 r0]) => uh HIH b1 (by omega) S (a + 1) r0 rb (.slice ka1 b1.kids.length kc1) w0 wx ((uh K1).touch hx (fun x h1 h2 => uh HSS x h1 h2)) (uh HSS) (uh Z1).1 (uh Z1).2 (by omega) hR hr0 (uh HT) (hB1.trans (hx.below hB1.size (fun k hk h => by omega))) hrb)
  have hA2 : IntKind.i64.wrap (a + 1) = a + 1 := wrapMi a ha0 ha1 hl0
  clear hat hkv0 hkv1 z0 z1 hszz hB1 h2 HIH HSZ h2b HNO HKV
  obtain ⟨k0, v0, a0, l0⟩ := b0
  obtain ⟨k1, v1, a1', l1⟩ := b1
  dsimp only [Br.key, Br.val, Br.at_, Br.kids] at s00 s01 s02 s03 s10 s11 s12 s13 HH0 HH1
  clear K0 K1 Z0 Z1
  generalize hX : w.heap.size = X at *
  go_wp2_with fail
  go_region_held3 (fun wx => wx.cell? ⟨X, 2, none⟩ = some (.int .i64 a) ∧ wx.cell? ⟨X, 3, none⟩ = some (.slice (some ⟨bb, off, none⟩) 2 cap) ∧ wx.cell? ⟨bb, off, none⟩ = some (.string k0) ∧ wx.cell? ⟨bb, off + 1, none⟩ = some (.string v0) ∧ wx.cell? ⟨bb, off + 2, none⟩ = some (.int .i64 a0) ∧ wx.cell? ⟨bb, off + 3, none⟩ = some (.slice ka0 l0.length kc0))
   (first | go_keep | exact ⟨(hn0.1.cell (p := ⟨X, 2, none⟩) hz1 hXr).trans x2, (hn0.1.cell (p := ⟨X, 3, none⟩) hz1 hXr).trans x3, (hn0.1.cell (p := ⟨bb, off, none⟩) hbb hbr).trans s00, (hn0.1.cell (p := ⟨bb, off + 1, none⟩) hbb hbr).trans s01, (hn0.1.cell (p := ⟨bb, off + 2, none⟩) hbb hbr).trans s02, (hn0.1.cell (p := ⟨bb, off + 3, none⟩) hbb hbr).trans s03⟩)
   ((go_at_call 97; refine (uh HH0 _ (below_drewN (Below.refl _ w1) 1)).mono ?_; rintro e w2 ⟨pv0, rfl, hn0⟩))
  have T2 := Hd (((uh T0).drewN 1).trans hn0.1 (fun _ _ h => h))
  have T12 := Hd (((Touch.refl (fun x => x = rb) w1).drewN 1).trans hn0.1 (fun _ _ h => h))
  have HRF := Hd (readV_fork (k := ⟨#[]⟩) (v := ⟨#[]⟩) (a := a) (least := least) (b0 := .mk k0 v0 a0 l0) (b1 := .mk k1 v1 a1' l1) (room := room) ⟨ha0, ha1, rfl, rfl⟩)
  have y2 := (((uh T12).cell (p := ⟨X, 2, none⟩) hz1 hXr)).trans x2
  have y3 := (((uh T12).cell (p := ⟨X, 3, none⟩) hz1 hXr)).trans x3
  have t10 := (((uh T12).cell (p := ⟨bb, off + 4, none⟩) hbb hbr)).trans s10
  have t11 := (((uh T12).cell (p := ⟨bb, off + 4 + 1, none⟩) hbb hbr)).trans s11
  have t12 := (((uh T12).cell (p := ⟨bb, off + 4 + 2, none⟩) hbb hbr)).trans s12
  have t13 := (((uh T12).cell (p := ⟨bb, off + 4 + 3, none⟩) hbb hbr)).trans s13
  have hz2 : X < w2.heap.size := Nat.lt_of_lt_of_le hz1 (uh T12).size
  have hbb2 : bb < w2.heap.size := Nat.lt_of_lt_of_le hbb (uh T12).size
  have hw12 := (uh T12).size
  clear x0 x1 x2 x3 s00 s01 s02 s03 s10 s11 s12 s13 HH0
  obtain ⟨_, ⟨hrn, hpv⟩ | ⟨t0, r0, p0, hrs, hpv, hN0, hR0⟩⟩ := hn0
  ·subst hpv
   rw [hrn] at HRF
   go_wp2_with fail
   go_ret
   exact NodeR.no (uh HRF) (uh T2)
  subst hpv
  have hr0 : r0 ≤ 40 := by have := (readV_facts _ _ (Nat.le_refl _) (a + 1) room t0 r0 (by omega) hrs).1; omega
  have hsz0 := tr_size (by omega) hrs
  rw [hrs] at HRF
  dsimp only at HRF
  have N2 := Hd (hN0.mono (T := fun x => w1.heap.size ≤ x ∧ x < w2.heap.size) (fun _ h => h))
  have R2 := Hd hR0
  clear hrs hN0 hR0
  have HC1 := Hd (uh HH1 r0 w2.drew hr0 ((uh T12).drewN 1) ((uh R2).drewN 1))
  clear HH1
  have hXw : X ≤ w1.heap.size := Nat.le_of_lt hz1
  go_wp2_with fail
  go_region_held3 (fun wx => wx.cell? ⟨X, 2, none⟩ = some (.int .i64 a) ∧ wx.cell? ⟨X, 3, none⟩ = some (.slice (some ⟨bb, off, none⟩) 2 cap) ∧ wx.cell? ⟨bb, off + 4, none⟩ = some (.string k1) ∧ wx.cell? ⟨bb, off + 4 + 1, none⟩ = some (.string v1) ∧ wx.cell? ⟨bb, off + 4 + 2, none⟩ = some (.int .i64 a1') ∧ wx.cell? ⟨bb, off + 4 + 3, none⟩ = some (.slice ka1 l1.length kc1))
   (first | go_keep | exact ⟨(hn1.1.cell (p := ⟨X, 2, none⟩) hz2 hXr).trans y2, (hn1.1.cell (p := ⟨X, 3, none⟩) hz2 hXr).trans y3, (hn1.1.cell (p := ⟨bb, off + 4, none⟩) hbb2 hbr).trans t10, (hn1.1.cell (p := ⟨bb, off + 4 + 1, none⟩) hbb2 hbr).trans t11, (hn1.1.cell (p := ⟨bb, off + 4 + 2, none⟩) hbb2 hbr).trans t12, (hn1.1.cell (p := ⟨bb, off + 4 + 3, none⟩) hbb2 hbr).trans t13⟩)
   ((go_at_call 97; refine (uh HC1).mono ?_; rintro e w3 ⟨pv1, rfl, hn1⟩))
  have T3 := Hd (((uh T2).drewN 1).trans hn1.1 (fun _ _ h => h))
  have T23 := Hd (((Touch.refl (fun x => x = rb) w2).drewN 1).trans hn1.1 (fun _ _ h => h))
  have u2 := (((uh T23).cell (p := ⟨X, 2, none⟩) hz2 hXr)).trans y2
  have hz3 : X < w3.heap.size := Nat.lt_of_lt_of_le hz2 (uh T23).size
  have hw23 := (uh T23).size
  clear y2 y3 t10 t11 t12 t13 HC1
  obtain ⟨_, ⟨hrn, hpv⟩ | ⟨t1, r1, p1, hrs, hpv, hN1, hR1⟩⟩ := hn1
  ·subst hpv
   rw [hrn] at HRF
   go_wp2_with fail
   go_ret
   exact NodeR.no (uh HRF) (uh T3)
  subst hpv
  have hsz1 := tr_size (by omega) hrs
  rw [hrs] at HRF
  dsimp only at HRF
  have N3 := Hd ((uh N2).touch (uh T23) (fun x hx (h : x = rb) => by have h1 : w1.heap.size ≤ x := hx.1; omega))
  have M3 := Hd (hN1.mono (T := fun x => w2.heap.size ≤ x ∧ x < w3.heap.size) (fun _ h => h))
  have R3 := Hd hR1
  clear hrs hN1 hR1 N2 R2
  have c0 := (uh N3).hashC
  have c1 := (uh M3).hashC
  have hp0 : p0 < w3.heap.size := (uh N3).here.2
  have hp1 : p1 < w3.heap.size := (uh M3).here.2
  have HFD := Hd (fun wx => firstDiff_any t0.hash t1.hash wx hsz0 hsz1)
  obtain ⟨an, rfl⟩ : ∃ an : Nat, a = (an : Int) := ⟨a.toNat, by omega⟩
  have han : an < 256 := by omega
  have HHB := Hd (fun wx => hashBit_any t0.hash an wx hsz0 han)
  rw [Int.toNat_natCast] at HRF
  have HFI := Hd (fd_iff t0.hash t1.hash an han)
  have hfle := fd_le t0.hash t1.hash
  have HB01 := Hd (bitN_01 t0.hash an)
  have HB11 := Hd (bitN_01 t1.hash an)
  go_wp2_with fail
  generalize t0.hash = h0 at *
  generalize t1.hash = h1 at *
  by_cases hfd : fd h0 h1 = an
  ·have hne := (uh HFI).1 hfd |>.2
   have HNE := Hd hne
   have hd0 : ((fd h0 h1 : Nat) : Int) = (an : Int) := by omega
   have HFD2 : Hid (∀ wx, Calls Tryz.prog 113 #[.string h0, .string h1] wx fun e w' => e = .returned (.int .i64 (an : Int)) ∧ ∃ n, w' = wx.drewN n) := Hd (fun wx => by have := uh HFD wx; rw [hd0] at this; exact this)
   clear HFI HFD hd0
   by_cases hb0 : bitN h0 an = 0
   ·rw [if_pos ⟨hfd, hb0⟩] at HRF
    have HBZ := Hd hb0
    have HHB2 : Hid (∀ wx, Calls Tryz.prog 114 #[.string h0, .int .i64 an] wx fun e w' => e = .returned (.int .i64 0) ∧ w' = wx) := Hd (fun wx => by have := uh HHB wx; rw [hb0] at this; exact this)
    clear HHB hfd hb0 hne hfle
    go_quiet (first | (go_at_call 113; exact Calls.quiet_of (uh HFD2 _)) | (go_at_call 114; exact Calls.quiet_of_same (uh HHB2 _)))
    have B34 := Hd (below_drewN (Below.refl w3.heap.size w3) nq)
    have v2 := ((uh B34).cell (p := ⟨X, 2, none⟩) hz3).trans u2
    have e0 := ((uh B34).cell (p := ⟨p0, 2, none⟩) hp0).trans c0
    have e1 := ((uh B34).cell (p := ⟨p1, 2, none⟩) hp1).trans c1
    have hs34 : (w3.drewN nq).heap.size = w3.heap.size := rfl
    have hq0 : p0 < (w3.drewN nq).heap.size := hp0
    have hq1 : p1 < (w3.drewN nq).heap.size := hp1
    generalize w3.drewN nq = w4 at *
    clear u2 c0 c1
    have HNF := Hd (newFork_any an p0 p1 h0 h1 w4 han hsz0 hsz1 (uh HNE) hq0 hq1 e0 e1)
    have hkv : kidsV h0 h1 an p0 p1 = (p0, p1) := by unfold kidsV; rw [if_pos (uh HBZ)]
    rw [hkv] at HNF
    clear hkv e0 e1
    have HS4 := Hd hs34
    clear hs34
    go_wp2_with fail
    refine (uh HNF).mono ?_
    rintro e w5 ⟨f, rfl, hf, hfb, hb5⟩
    have B35 := hbt B34 hb5
    have RR := Hd (And.intro hf hfb)
    clear hf hfb hb5 HNF
    go_wp2_with fail
    go_ret
    have hf5 := (uh RR).2.1
    have hf4 := (uh RR).1
    have hs4 := uh HS4
    have h35 := (uh B35).size
    have T35 := Touch.ofBelow (T := fun x => x = rb) (uh B35)
    refine NodeR.yes (uh HRF) ?_ ((uh R3).below (uh B35)) ((uh T3).trans T35 (fun _ _ h => h))
    have hXX : w.heap.size = X := hX
    refine .fork _ (fun x => w1.heap.size ≤ x ∧ x < w2.heap.size) (fun x => w2.heap.size ≤ x ∧ x < w3.heap.size) f an h0 t0 t1 p0 p1 ⟨by omega, hf5⟩ (fun x hx => ⟨⟨by omega, by omega⟩, by omega⟩) (fun x hx => ⟨⟨by omega, by omega⟩, by omega⟩) (fun x h1 h2 => by omega) (uh RR).2 ((uh N3).blw (uh B35)) ((uh M3).blw (uh B35))
   ·rw [if_neg (fun h => hb0 h.2)] at HRF
    have hb1 : bitN h0 an = 1 := by rcases uh HB01 with h | h; exact absurd h hb0; exact h
    have HHB2 : Hid (∀ wx, Calls Tryz.prog 114 #[.string h0, .int .i64 an] wx fun e w' => e = .returned (.int .i64 1) ∧ w' = wx) := Hd (fun wx => by have := uh HHB wx; rw [hb1] at this; exact this)
    clear HHB hfd hb0 hb1 hne hfle
    go_quiet (first | (go_at_call 113; exact Calls.quiet_of (uh HFD2 _)) | (go_at_call 114; exact Calls.quiet_of_same (uh HHB2 _)))
    have T4 := Hd ((uh T3).drewN nq)
    generalize w3.drewN nq = w4 at *
    go_wp2_with fail
    go_ret
    exact NodeR.no (uh HRF) (uh T4)
  ·rw [if_neg (fun h => hfd h.1)] at HRF
   clear HFI
   generalize fd h0 h1 = fdv at *
   have hd1 : (((fdv : Nat) : Int) == (an : Int)) = false := by rw [beq_eq_false_iff_ne]; omega
   have hd2 : (((fdv : Nat) : Int) != (an : Int)) = true := by simp; omega
   have hd3 : (fdv == an) = false := by rw [beq_eq_false_iff_ne]; exact hfd
   have hd4 : (fdv != an) = true := by simpa using hfd
   go_quiet (first | (go_at_call 113; exact Calls.quiet_of (uh HFD _)) | (go_at_call 114; exact Calls.quiet_of_same (uh HHB _)))
   have T4 := Hd ((uh T3).drewN nq)
   generalize w3.drewN nq = w4 at *
   go_wp2_with fail
   go_ret
   exact NodeR.no (uh HRF) (uh T4)
theorem Brs.bound {S : Nat → Prop} {w : World} {v : Value} {l : List Br} (h : Brs S w v l) : Brs (fun x => x < w.heap.size) w v l := by
 induction h with
 | nil a cap hc => exact .nil a cap hc
 | row b off cap l kv h0 h1 h2 h3 h4 h5 h6 h7 ih => exact .row b off cap l kv h0 h1 h2 h3 h3 h5 h6 ih
def mapV (b : Br) : Option (Option Tr) := if emptyBr b = true then some none else match readV b 0 40 with
 | some (t, _) => some (some t)
 | none => none
theorem mapB_V (b : Br) : mapB b = (mapV b).isSome := by
 unfold mapB mapV
 cases emptyBr b
 ·cases h : readV b 0 40 with
  | none => rfl
  | some p => rfl
 ·rfl
def PtrM (w : World) (S : Nat → Prop) (pv : Option Addr) : Option Tr → Prop
 | none => pv = none
 | some t => ∃ p, pv = some ⟨p, 0, none⟩ ∧ Nd w S p t
theorem PtrM.blw {w w' : World} {S : Nat → Prop} {pv : Option Addr} {o : Option Tr} (h : PtrM w S pv o) (hb : Below w.heap.size w w') : PtrM w' S pv o := by
 cases o with
 | none => exact h
 | some t => obtain ⟨p, h1, h2⟩ := h; exact ⟨p, h1, h2.blw hb⟩
def ReadR (b : Br) (w : World) (e : Ending) (w' : World) : Prop := ∃ pv, e = .returned (.tuple #[.pointer pv, .bool (mapB b)]) ∧ Below w.heap.size w w' ∧ match mapV b with
 | none => pv = none
 | some o => PtrM w' (fun x => w.heap.size ≤ x ∧ x < w'.heap.size) pv o
theorem empty_iff (k v : ByteArray) (a : Int) (l : List Br) : emptyBr (.mk k v a l) = true ↔ k = ⟨#[]⟩ ∧ v = ⟨#[]⟩ ∧ a = 0 ∧ l.length = 0 := by
 unfold emptyBr
 simp only [Br.key, Br.val, Br.at_, Br.kids, Bool.and_eq_true]
 constructor
 ·rintro ⟨h1, h2, h3, h4⟩; exact ⟨empty_size (of_decide_eq_true h1), empty_size (of_decide_eq_true h2), of_decide_eq_true h3, of_decide_eq_true h4⟩
 ·rintro ⟨rfl, rfl, h3, h4⟩; exact ⟨rfl, rfl, decide_eq_true h3, decide_eq_true h4⟩
theorem readMap_any (k v : ByteArray) (a : Int) (ks : List Br) (S : Nat → Prop) (kv : Value) (w : World) (hB : Brs S w kv ks) (hk : k.size ≤ maxLen) (hv : v.size ≤ maxLen) (ht : Tab w) :
  Calls Tryz.prog 69 #[.agg #[.string k, .string v, .int .i64 a, kv]] w fun e w' => ReadR (.mk k v a ks) w e w' := by
 obtain ⟨sa, cap, rfl, hcap, hcm⟩ := hB.shape
 have HE := Hd (empty_iff k v a ks)
 have hlm : ks.length ≤ 9223372036854775807 := by unfold maxLen at hcm; omega
 have B0 := Hd (bal w (.cells #[.string k, .string v, .int .i64 a, .slice sa ks.length cap] 35))
 have B1 := Hd ((uh B0).alloc (uh B0).size (.cells #[.int .i64 40] 141))
 have R1 := Hd (Blk.new (w.alloc (.cells #[.string k, .string v, .int .i64 a, .slice sa ks.length cap] 35)) #[.int .i64 40] 141 (w.heap.size + 1) (by simp))
 have X1 := Hd ((Blk.new w #[.string k, .string v, .int .i64 a, .slice sa ks.length cap] 35 w.heap.size rfl).alloc (.cells #[.int .i64 40] 141))
 have HN := Hd (node_any _ (.mk k v a ks) (Nat.le_refl _) (fun x => x < w.heap.size) 0 40 (w.heap.size + 1) (.slice sa ks.length cap) w _ (hB.bound.blw (uh B1)) (fun x hx => by omega) hk hv (by omega) (uh R1) (by omega) ht (uh B1) (by omega))
 have HYES := Hd (fun (h : emptyBr (.mk k v a ks) = true) => show mapV (.mk k v a ks) = some none by unfold mapV; rw [if_pos h])
 have HNO := Hd (fun (h : ¬ emptyBr (.mk k v a ks) = true) => show mapV (.mk k v a ks) = (match readV (.mk k v a ks) 0 40 with | some (t, _) => some (some t) | none => none) by unfold mapV; rw [if_neg h])
 have HMB := Hd (mapB_V (.mk k v a ks))
 dsimp only [Br.key, Br.val, Br.at_, Br.kids] at HN
 have HMR : Hid (∀ pv w', Below w.heap.size w w' → emptyBr (.mk k v a ks) = true → pv = none → ReadR (.mk k v a ks) w (.returned (.tuple #[.pointer pv, .bool true])) w') := Hd (fun pv w' hb he hp => by
  have h1 := uh HYES he
  refine ⟨pv, ?_, hb, ?_⟩
  ·rw [uh HMB, h1]; rfl
  ·rw [h1]; exact hp)
 have HMN : Hid (¬ emptyBr (.mk k v a ks) = true → ∀ pv w1 w', Below w.heap.size w w1 → w1.heap.size ≤ w'.heap.size → NodeQ (.mk k v a ks) 0 40 (w.heap.size + 1) w1 pv w' → ReadR (.mk k v a ks) w (.returned (.tuple #[.pointer pv, .bool pv.isSome])) w') := Hd (fun he pv w1 w' hb1 hs hq => by
  have h1 := uh HNO he
  obtain ⟨hT, ⟨h2, h3⟩ | ⟨t, r, p, h2, h3, h4, h5⟩⟩ := hq
  ·rw [h2] at h1
   subst h3
   refine ⟨none, by rw [uh HMB, h1]; rfl, hb1.trans (hT.below hb1.size (fun x hx h => by omega)), by rw [h1]⟩
  ·rw [h2] at h1
   subst h3
   refine ⟨_, by rw [uh HMB, h1]; rfl, hb1.trans (hT.below hb1.size (fun x hx h => by omega)), ?_⟩
   rw [h1]
   exact ⟨p, rfl, h4.mono (fun x hx => ⟨Nat.le_trans hb1.size hx.1, hx.2⟩)⟩)
 clear hB hk hv ht hcm hcap HYES HNO HMB
 have HRR := Hd (fun e w' (h : ReadR (.mk k v a ks) w e w') => h)
 have hz : (w.alloc (.cells #[.string k, .string v, .int .i64 a, .slice sa ks.length cap] 35)).heap.size = w.heap.size + 1 := by simp
 by_cases he : k = ⟨#[]⟩ ∧ v = ⟨#[]⟩ ∧ a = 0 ∧ ks.length = 0
 ·have HEE := Hd ((uh HE).2 he)
  obtain ⟨h1, h2, h3, h4⟩ := he
  have HM := Hd (uh HMR none _ (uh B0) (uh HEE) rfl)
  clear HMR HMN HN HE HEE X1 R1 B1 hz
  have hkb : k.toList.isEmpty = true := emptyB_iff.2 (by rw [h1]; rfl)
  have hvb : v.toList.isEmpty = true := emptyB_iff.2 (by rw [h2]; rfl)
  have hab : (a == 0) = true := by simpa using h3
  have hlb : ((ks.length : Int) == 0) = true := by simpa using h4
  clear h1 h2 h3 h4 HRR
  go_enter Tryz.func69, Tryz.ntmps69
  go_wp2_with fail
  go_ret2
  exact uh HM
 ·have HEN := Hd (uh HMN (fun h => he ((uh HE).1 h)))
  clear HMR HMN HE HRR
  by_cases h1 : k = ⟨#[]⟩
  case neg =>
   have hkb := ne_empty h1
   clear he h1
   go_enter Tryz.func69, Tryz.ntmps69
   go_wp2_with fail
   refine (uh HN).mono ?_
   rintro e w2 ⟨pv, rfl, hn⟩
   have HF := Hd (uh HEN pv _ w2 (uh B1) hn.1.size hn)
   clear hn HN HEN X1 R1 B1 B0
   cases pv
   ·go_wp2_with fail
    go_ret2
    exact uh HF
   ·go_wp2_with fail
    go_ret2
    exact uh HF
  by_cases h2 : v = ⟨#[]⟩
  case neg =>
   have hkb : k.toList.isEmpty = true := emptyB_iff.2 (by rw [h1]; rfl)
   have hvb := ne_empty h2
   clear he h1 h2
   go_enter Tryz.func69, Tryz.ntmps69
   go_wp2_with fail
   refine (uh HN).mono ?_
   rintro e w2 ⟨pv, rfl, hn⟩
   have HF := Hd (uh HEN pv _ w2 (uh B1) hn.1.size hn)
   clear hn HN HEN X1 R1 B1 B0
   cases pv
   ·go_wp2_with fail
    go_ret2
    exact uh HF
   ·go_wp2_with fail
    go_ret2
    exact uh HF
  by_cases h3 : a = 0
  case neg =>
   have hkb : k.toList.isEmpty = true := emptyB_iff.2 (by rw [h1]; rfl)
   have hvb : v.toList.isEmpty = true := emptyB_iff.2 (by rw [h2]; rfl)
   have hab : (a == 0) = false := by simpa using h3
   clear he h1 h2 h3
   go_enter Tryz.func69, Tryz.ntmps69
   go_wp2_with fail
   refine (uh HN).mono ?_
   rintro e w2 ⟨pv, rfl, hn⟩
   have HF := Hd (uh HEN pv _ w2 (uh B1) hn.1.size hn)
   clear hn HN HEN X1 R1 B1 B0
   cases pv
   ·go_wp2_with fail
    go_ret2
    exact uh HF
   ·go_wp2_with fail
    go_ret2
    exact uh HF
  have h4 : ¬ ks.length = 0 := fun h => he ⟨h1, h2, h3, h⟩
  have hkb : k.toList.isEmpty = true := emptyB_iff.2 (by rw [h1]; rfl)
  have hvb : v.toList.isEmpty = true := emptyB_iff.2 (by rw [h2]; rfl)
  have hab : (a == 0) = true := by simpa using h3
  have hlb : ((ks.length : Int) == 0) = false := by rw [beq_eq_false_iff_ne]; omega
  clear he h1 h2 h3 h4
  go_enter Tryz.func69, Tryz.ntmps69
  go_wp2_with fail
  refine (uh HN).mono ?_
  rintro e w2 ⟨pv, rfl, hn⟩
  have HF := Hd (uh HEN pv _ w2 (uh B1) hn.1.size hn)
  clear hn HN HEN X1 R1 B1 B0
  cases pv
  ·go_wp2_with fail
   go_ret2
   exact uh HF
  ·go_wp2_with fail
   go_ret2
   exact uh HF
end Go.Proofs.YtnhhnjmjodmacaaGreatDoor.Sha
