/- A map read into nodes: (*mapReader).node. -/
import Derived.Test.YtnajpeaieeaflaaDoorBrR
namespace Go.Proofs.YtnajpeaieeaflaaDoor.Sha
open Go.ChangeShapes Go.WideShapes Go.ChangeAt Go.RowKit
set_option linter.unusedVariables false
set_option linter.unusedSimpArgs false

/-- What node leaves: the nodes of the map that was read, and the room; or nil. -/
def NodeQ (b : Br) (least : Int) (room rb : Nat) (w : World) (pv : Option Addr) (w' : World) : Prop :=
  Touch (fun x => x = rb) w w' ∧ ((readV b least room = none ∧ pv = none) ∨ ∃ t r p, readV b least room = some (t, r) ∧ pv = some ⟨p, 0, none⟩ ∧ Nd w' (fun x => w.heap.size ≤ x ∧ x < w'.heap.size) p t ∧ Blk w' rb [.int .i64 (r : Nat)])
def NodeR (b : Br) (least : Int) (room rb : Nat) (w : World) (e : Ending) (w' : World) : Prop := ∃ pv, e = .returned (.pointer pv) ∧ NodeQ b least room rb w pv w'
theorem NodeR.no {b : Br} {least : Int} {room rb : Nat} {w w' : World} (h : readV b least room = none) (ht : Touch (fun x => x = rb) w w') : NodeR b least room rb w (.returned (.pointer none)) w' := ⟨none, rfl, ht, .inl ⟨h, rfl⟩⟩
theorem NodeR.yes {b : Br} {least : Int} {room rb r p : Nat} {t : Tr} {w w' : World} (h : readV b least room = some (t, r)) (h1 : Nd w' (fun x => w.heap.size ≤ x ∧ x < w'.heap.size) p t) (h2 : Blk w' rb [.int .i64 r]) (ht : Touch (fun x => x = rb) w w') : NodeR b least room rb w (.returned (.pointer (some ⟨p, 0, none⟩))) w' := ⟨_, rfl, ht, .inr ⟨t, r, p, h, rfl, h1, h2⟩⟩
theorem LeafR.node {k v : ByteArray} {a least : Int} {ks : List Br} {room rb : Nat} {w w1 w' : World} {e : Ending} (ha : a = 256) (h : LeafR k v ks.length room rb w1 e w') (hw : w.heap.size ≤ w1.heap.size) (ht : Touch (fun x => x = rb) w w1) : NodeR (.mk k v a ks) least room rb w e w' := by
  unfold LeafR at h
  obtain ⟨h1, h2⟩ := h
  have hT : Touch (fun x => x = rb) w w' := ht.trans h2 (fun _ _ h => h)
  by_cases hc : okK k = true ∧ v.size ≤ 60 ∧ ks.length = 0 ∧ room ≠ 0
  · rw [if_pos hc] at h1
    obtain ⟨p, rfl, h3, h4, h5⟩ := h1
    exact NodeR.yes (by rw [readV_leaf ha, if_pos hc]) (.leaf _ p k v ⟨Nat.le_trans hw h3, h4.1⟩ h4) h5 hT
  · rw [if_neg hc] at h1
    subst h1
    exact NodeR.no (by rw [readV_leaf ha, if_neg hc]) hT
theorem tr_size {b : Br} {least : Int} {room r : Nat} {t : Tr} (h0 : 0 ≤ least) (h : readV b least room = some (t, r)) : t.hash.size = 32 := by
  obtain ⟨_, h2⟩ := readV_facts _ b (Nat.le_refl _) least room t r h0 h
  obtain ⟨_, h4, h5⟩ := h2 256 (by omega)
  rw [← h5]
  exact kh_size (by have := okK_iff.1 h4; omega)
theorem wrapMi (a : Int) {least : Int} (h0 : least ≤ a) (h1 : a ≤ 255) (h2 : 0 ≤ least) : IntKind.i64.wrap (a + 1) = a + 1 := by
  simp only [IntKind.wrap, IntKind.bits, IntKind.signed]
  simp
  omega
theorem empty_size {k : ByteArray} (h : k.size = 0) : k = ⟨#[]⟩ := by
  obtain ⟨⟨l⟩⟩ := k
  have : l.length = 0 := h
  rw [List.eq_nil_of_length_eq_zero this]
theorem ne_empty {k : ByteArray} (h : k ≠ ⟨#[]⟩) : k.toList.isEmpty = false := by
  cases hb : k.toList.isEmpty
  · rfl
  · exact absurd (empty_size (emptyB_iff.1 hb)) h

set_option maxRecDepth 100000 in
set_option maxHeartbeats 4000000 in
theorem node_any : ∀ (n : Nat) (b : Br), SizeOf.sizeOf b ≤ n → ∀ (S : Nat → Prop) (least : Int) (room rb : Nat) (kv : Value) (w0 w : World), Brs S w kv b.kids → (∀ x, S x → x ≠ rb) → b.key.size ≤ maxLen → b.val.size ≤ maxLen → 0 ≤ least → Blk w rb [.int .i64 room] → room ≤ 40 → Tab w0 → Below w0.heap.size w0 w → w0.heap.size ≤ rb →
    Calls Tryd.prog 50 #[.pointer (some ⟨rb, 0, none⟩), .agg #[.string b.key, .string b.val, .int .i64 b.at_, kv], .int .i64 least] w fun e w' => NodeR b least room rb w e w' := by
  intro n
  induction n with
  | zero => intro b hb; exact absurd hb (by cases b; simp only [Br.mk.sizeOf_spec]; omega)
  | succ n ih =>
    intro b hsz S least room rb kv w0 w hB hS hk hv hl0 hR hroom ht hb0 hrb
    obtain ⟨k, v, a, ks⟩ := b
    simp only [Br.key, Br.val, Br.at_, Br.kids] at *
    obtain ⟨sa, cap, rfl, hcap, hcm⟩ := hB.shape
    have X0 := hide (Blk.new w #[.string k, .string v, .int .i64 a, .slice sa ks.length cap] 25 w.heap.size rfl)
    have T0 := hide ((Touch.refl (fun x => x = rb) w).alloc (.cells #[.string k, .string v, .int .i64 a, .slice sa ks.length cap] 25))
    have R0 := hide (hR.alloc (.cells #[.string k, .string v, .int .i64 a, .slice sa ks.length cap] 25))
    have B0 := hide (hb0.alloc hb0.size (.cells #[.string k, .string v, .int .i64 a, .slice sa ks.length cap] 25))
    have HBR := hide (hB.touch (unhide T0) (fun x hx h => hS x hx h))
    have hz1 : w.heap.size < (w.alloc (.cells #[.string k, .string v, .int .i64 a, .slice sa ks.length cap] 25)).heap.size := by simp
    have HT := hide ht
    have hrw := hR.1
    have hw0 := hb0.size
    have hlm : ks.length ≤ 9223372036854775807 := by unfold maxLen at hcm; omega
    have HIH := hide ih
    have HSS := hide hS
    have HSZ := hide hsz
    have HKV := hide (And.intro hk hv)
    have hXr : w.heap.size ≠ rb := by omega
    clear hB hR ht hb0 ih hS hsz
    by_cases ha : a = 256
    · have HLF := hide (leaf_any k v a sa ks.length cap rb room w0 (w.alloc (.cells #[.string k, .string v, .int .i64 a, .slice sa ks.length cap] 25)) hk hv (by omega) (unhide R0) hroom (unhide HT) (unhide B0) hrb)
      have HNR := hide (fun e w' h => LeafR.node (k := k) (v := v) (least := least) (ks := ks) (room := room) (rb := rb) (w := w) (w1 := w.alloc (.cells #[.string k, .string v, .int .i64 a, .slice sa ks.length cap] 25)) (w' := w') (e := e) ha h (Nat.le_of_lt hz1) (unhide T0))
      have HA := hide ha
      have hab : (a == 256) = true := by simpa using ha
      clear ha hk hv
      go_enter Tryd.func50, Tryd.ntmps50
      go_wp2_with fail
      refine (unhide HLF).mono ?_
      rintro e w2 hlr
      have HE := hide (unhide HNR e w2 hlr)
      have HES : Hid (∃ pv, e = .returned (.pointer pv)) := hide (by
        unfold LeafR at hlr
        obtain ⟨h1, _⟩ := hlr
        split at h1
        · obtain ⟨p, h2, _⟩ := h1; exact ⟨_, h2⟩
        · exact ⟨_, h1⟩)
      clear hlr HLF HNR
      obtain ⟨pv, rfl⟩ := unhide HES
      go_wp2_with fail
      go_ret
      exact unhide HE
    have hab : (a == 256) = false := by simpa using ha
    have HNO := hide (fun h w' ht => NodeR.no (b := .mk k v a ks) (least := least) (room := room) (rb := rb) (w := w) (w' := w') (readV_no ha h) ht)
    have HA := hide ha
    have HI := hide (inB_iff (n := a) (lo := least) (hi := 255))
    have HW := hide (fun wx => within_any a least 255 wx)
    generalize inB a least 255 = b1 at *
    clear ha hk hv
    go_enter Tryd.func50, Tryd.ntmps50
    go_wp2_with fail
    generalize w.alloc (.cells #[.string k, .string v, .int .i64 a, .slice sa ks.length cap] 25) = w1 at *
    have x0 := (unhide X0).cell 0 rfl
    have x1 := (unhide X0).cell 1 rfl
    have x2 := (unhide X0).cell 2 rfl
    have x3 := (unhide X0).cell 3 rfl
    refine (unhide HW w1).mono ?_
    rintro e w9 ⟨rfl, hw9⟩
    subst w9
    cases b1
    · go_wp2_with fail
      go_ret
      exact unhide HNO (fun h => by have := (unhide HI).2 ⟨h.1, h.2.1⟩; cases this) _ (unhide T0)
    obtain ⟨ha0, ha1⟩ := (unhide HI).1 rfl
    by_cases h2 : ks.length = 2
    case neg =>
      have h2b : ((ks.length : Int) != 2) = true := by simp; omega
      have H2 := hide h2
      clear h2
      go_wp2_with fail
      go_ret
      exact unhide HNO (fun h => unhide H2 h.2.2.1) _ (unhide T0)
    have h2b : ((ks.length : Int) != 2) = false := by simp; omega
    by_cases hk0 : k = ⟨#[]⟩
    case neg =>
      have H2 := hide hk0
      have hkb := ne_empty hk0
      clear h2
      go_wp2_with fail
      go_ret
      exact unhide HNO (fun h => unhide H2 (empty_size h.2.2.2.1)) _ (unhide T0)
    by_cases hv0 : v = ⟨#[]⟩
    case neg =>
      have H2 := hide hv0
      have hvb := ne_empty hv0
      subst hk0
      clear h2
      go_wp2_with fail
      go_ret
      exact unhide HNO (fun h => unhide H2 (empty_size h.2.2.2.2)) _ (unhide T0)
    subst hk0 hv0
    obtain ⟨b0, b1, rfl⟩ := two_of h2
    obtain ⟨bb, off, kvf, rfl, _, hat⟩ := (unhide HBR).at (by simp)
    have hbb := hat.lt
    have hbr : bb ≠ rb := unhide HSS bb hat.here
    obtain ⟨s00, s01, s02, s03⟩ := hat.cells 0 (by simp)
    obtain ⟨s10, s11, s12, s13⟩ := hat.cells 1 (by simp)
    have K0 := hide (hat.kids 0 (by simp))
    have K1 := hide (hat.kids 1 (by simp))
    have Z0 := hide (hat.small 0 (by simp))
    have Z1 := hide (hat.small 1 (by simp))
    simp only [List.getD_cons_zero, List.getD_cons_succ, Nat.zero_mul, Nat.add_zero, Nat.one_mul] at s00 s01 s02 s03 s10 s11 s12 s13 K0 K1 Z0 Z1
    obtain ⟨ka0, kc0, hkv0, _, _⟩ := (unhide K0).shape
    obtain ⟨ka1, kc1, hkv1, _, _⟩ := (unhide K1).shape
    rw [hkv0] at K0 s03
    rw [hkv1] at K1 s13
    have z0 := kid_lt (k := ⟨#[]⟩) (v := ⟨#[]⟩) (a := a) (l := [b0, b1]) (b := b0) (by simp)
    have z1 := kid_lt (k := ⟨#[]⟩) (v := ⟨#[]⟩) (a := a) (l := [b0, b1]) (b := b1) (by simp)
    have hszz := unhide HSZ
    have hB1 := (unhide B0)
    have HH0 := hide (fun wx (hx : Below w1.heap.size w1 wx) => unhide HIH b0 (by omega) S (a + 1) room rb (.slice ka0 b0.kids.length kc0) w0 wx ((unhide K0).blw hx) (unhide HSS) (unhide Z0).1 (unhide Z0).2 (by omega) ((unhide R0).below hx) hroom (unhide HT) (hB1.trans (hx.mono hB1.size)) hrb)
    have HH1 := hide (fun (r0 : Nat) wx (hr0 : r0 ≤ 40) (hx : Touch (fun x => x = rb) w1 wx) (hR : Blk wx rb [.int .i64 r0]) => unhide HIH b1 (by omega) S (a + 1) r0 rb (.slice ka1 b1.kids.length kc1) w0 wx ((unhide K1).touch hx (fun x h1 h2 => unhide HSS x h1 h2)) (unhide HSS) (unhide Z1).1 (unhide Z1).2 (by omega) hR hr0 (unhide HT) (hB1.trans (hx.below hB1.size (fun k hk h => by omega))) hrb)
    have hA2 : IntKind.i64.wrap (a + 1) = a + 1 := wrapMi a ha0 ha1 hl0
    clear hat hkv0 hkv1 z0 z1 hszz hB1 h2 HIH HSZ h2b HNO HKV
    obtain ⟨k0, v0, a0, l0⟩ := b0
    obtain ⟨k1, v1, a1', l1⟩ := b1
    dsimp only [Br.key, Br.val, Br.at_, Br.kids] at s00 s01 s02 s03 s10 s11 s12 s13 HH0 HH1
    clear K0 K1 Z0 Z1
    generalize hX : w.heap.size = X at *
    go_wp2_with fail
    go_region_held3 (fun wx => wx.cell? ⟨X, 2, none⟩ = some (.int .i64 a) ∧ wx.cell? ⟨X, 3, none⟩ = some (.slice (some ⟨bb, off, none⟩) 2 cap) ∧ wx.cell? ⟨bb, off, none⟩ = some (.string k0) ∧ wx.cell? ⟨bb, off + 1, none⟩ = some (.string v0) ∧ wx.cell? ⟨bb, off + 2, none⟩ = some (.int .i64 a0) ∧ wx.cell? ⟨bb, off + 3, none⟩ = some (.slice ka0 l0.length kc0))
      (first | go_keep | exact ⟨(hn0.1.cell (p := ⟨X, 2, none⟩) hz1 hXr).trans x2, (hn0.1.cell (p := ⟨X, 3, none⟩) hz1 hXr).trans x3, (hn0.1.cell (p := ⟨bb, off, none⟩) hbb hbr).trans s00, (hn0.1.cell (p := ⟨bb, off + 1, none⟩) hbb hbr).trans s01, (hn0.1.cell (p := ⟨bb, off + 2, none⟩) hbb hbr).trans s02, (hn0.1.cell (p := ⟨bb, off + 3, none⟩) hbb hbr).trans s03⟩)
      ((go_at_call 50; refine (unhide HH0 _ (below_drewN (Below.refl _ w1) 1)).mono ?_; rintro e w2 ⟨pv0, rfl, hn0⟩))
    have T2 := hide (((unhide T0).drewN 1).trans hn0.1 (fun _ _ h => h))
    have T12 := hide (((Touch.refl (fun x => x = rb) w1).drewN 1).trans hn0.1 (fun _ _ h => h))
    have HRF := hide (readV_fork (k := ⟨#[]⟩) (v := ⟨#[]⟩) (a := a) (least := least) (b0 := .mk k0 v0 a0 l0) (b1 := .mk k1 v1 a1' l1) (room := room) ⟨ha0, ha1, rfl, rfl⟩)
    have y2 := (((unhide T12).cell (p := ⟨X, 2, none⟩) hz1 hXr)).trans x2
    have y3 := (((unhide T12).cell (p := ⟨X, 3, none⟩) hz1 hXr)).trans x3
    have t10 := (((unhide T12).cell (p := ⟨bb, off + 4, none⟩) hbb hbr)).trans s10
    have t11 := (((unhide T12).cell (p := ⟨bb, off + 4 + 1, none⟩) hbb hbr)).trans s11
    have t12 := (((unhide T12).cell (p := ⟨bb, off + 4 + 2, none⟩) hbb hbr)).trans s12
    have t13 := (((unhide T12).cell (p := ⟨bb, off + 4 + 3, none⟩) hbb hbr)).trans s13
    have hz2 : X < w2.heap.size := Nat.lt_of_lt_of_le hz1 (unhide T12).size
    have hbb2 : bb < w2.heap.size := Nat.lt_of_lt_of_le hbb (unhide T12).size
    have hw12 := (unhide T12).size
    clear x0 x1 x2 x3 s00 s01 s02 s03 s10 s11 s12 s13 HH0
    obtain ⟨_, ⟨hrn, hpv⟩ | ⟨t0, r0, p0, hrs, hpv, hN0, hR0⟩⟩ := hn0
    · subst hpv
      rw [hrn] at HRF
      go_wp2_with fail
      go_ret
      exact NodeR.no (unhide HRF) (unhide T2)
    subst hpv
    have hr0 : r0 ≤ 40 := by have := (readV_facts _ _ (Nat.le_refl _) (a + 1) room t0 r0 (by omega) hrs).1; omega
    have hsz0 := tr_size (by omega) hrs
    rw [hrs] at HRF
    dsimp only at HRF
    have N2 := hide (hN0.mono (T := fun x => w1.heap.size ≤ x ∧ x < w2.heap.size) (fun _ h => h))
    have R2 := hide hR0
    clear hrs hN0 hR0
    have HC1 := hide (unhide HH1 r0 w2.drew hr0 ((unhide T12).drewN 1) ((unhide R2).drewN 1))
    clear HH1
    have hXw : X ≤ w1.heap.size := Nat.le_of_lt hz1
    go_wp2_with fail
    go_region_held3 (fun wx => wx.cell? ⟨X, 2, none⟩ = some (.int .i64 a) ∧ wx.cell? ⟨X, 3, none⟩ = some (.slice (some ⟨bb, off, none⟩) 2 cap) ∧ wx.cell? ⟨bb, off + 4, none⟩ = some (.string k1) ∧ wx.cell? ⟨bb, off + 4 + 1, none⟩ = some (.string v1) ∧ wx.cell? ⟨bb, off + 4 + 2, none⟩ = some (.int .i64 a1') ∧ wx.cell? ⟨bb, off + 4 + 3, none⟩ = some (.slice ka1 l1.length kc1))
      (first | go_keep | exact ⟨(hn1.1.cell (p := ⟨X, 2, none⟩) hz2 hXr).trans y2, (hn1.1.cell (p := ⟨X, 3, none⟩) hz2 hXr).trans y3, (hn1.1.cell (p := ⟨bb, off + 4, none⟩) hbb2 hbr).trans t10, (hn1.1.cell (p := ⟨bb, off + 4 + 1, none⟩) hbb2 hbr).trans t11, (hn1.1.cell (p := ⟨bb, off + 4 + 2, none⟩) hbb2 hbr).trans t12, (hn1.1.cell (p := ⟨bb, off + 4 + 3, none⟩) hbb2 hbr).trans t13⟩)
      ((go_at_call 50; refine (unhide HC1).mono ?_; rintro e w3 ⟨pv1, rfl, hn1⟩))
    have T3 := hide (((unhide T2).drewN 1).trans hn1.1 (fun _ _ h => h))
    have T23 := hide (((Touch.refl (fun x => x = rb) w2).drewN 1).trans hn1.1 (fun _ _ h => h))
    have u2 := (((unhide T23).cell (p := ⟨X, 2, none⟩) hz2 hXr)).trans y2
    have hz3 : X < w3.heap.size := Nat.lt_of_lt_of_le hz2 (unhide T23).size
    have hw23 := (unhide T23).size
    clear y2 y3 t10 t11 t12 t13 HC1
    obtain ⟨_, ⟨hrn, hpv⟩ | ⟨t1, r1, p1, hrs, hpv, hN1, hR1⟩⟩ := hn1
    · subst hpv
      rw [hrn] at HRF
      go_wp2_with fail
      go_ret
      exact NodeR.no (unhide HRF) (unhide T3)
    subst hpv
    have hsz1 := tr_size (by omega) hrs
    rw [hrs] at HRF
    dsimp only at HRF
    have N3 := hide ((unhide N2).touch (unhide T23) (fun x hx (h : x = rb) => by have h1 : w1.heap.size ≤ x := hx.1; omega))
    have M3 := hide (hN1.mono (T := fun x => w2.heap.size ≤ x ∧ x < w3.heap.size) (fun _ h => h))
    have R3 := hide hR1
    clear hrs hN1 hR1 N2 R2
    have c0 := (unhide N3).hashC
    have c1 := (unhide M3).hashC
    have hp0 : p0 < w3.heap.size := (unhide N3).here.2
    have hp1 : p1 < w3.heap.size := (unhide M3).here.2
    have HFD := hide (fun wx => firstDiff_any t0.hash t1.hash wx hsz0 hsz1)
    obtain ⟨an, rfl⟩ : ∃ an : Nat, a = (an : Int) := ⟨a.toNat, by omega⟩
    have han : an < 256 := by omega
    have HHB := hide (fun wx => hashBit_any t0.hash an wx hsz0 han)
    rw [Int.toNat_natCast] at HRF
    have HFI := hide (fd_iff t0.hash t1.hash an han)
    have hfle := fd_le t0.hash t1.hash
    have HB01 := hide (bitN_01 t0.hash an)
    have HB11 := hide (bitN_01 t1.hash an)
    go_wp2_with fail
    generalize t0.hash = h0 at *
    generalize t1.hash = h1 at *
    by_cases hfd : fd h0 h1 = an
    · have hne := (unhide HFI).1 hfd |>.2
      have HNE := hide hne
      have hd0 : ((fd h0 h1 : Nat) : Int) = (an : Int) := by omega
      have HFD2 : Hid (∀ wx, Calls Tryd.prog 78 #[.string h0, .string h1] wx fun e w' => e = .returned (.int .i64 (an : Int)) ∧ ∃ n, w' = wx.drewN n) := hide (fun wx => by have := unhide HFD wx; rw [hd0] at this; exact this)
      clear HFI HFD hd0
      by_cases hb0 : bitN h0 an = 0
      · rw [if_pos ⟨hfd, hb0⟩] at HRF
        have HBZ := hide hb0
        have HHB2 : Hid (∀ wx, Calls Tryd.prog 21 #[.string h0, .int .i64 an] wx fun e w' => e = .returned (.int .i64 0) ∧ w' = wx) := hide (fun wx => by have := unhide HHB wx; rw [hb0] at this; exact this)
        clear HHB hfd hb0 hne hfle
        go_quiet (first | (go_at_call 78; exact Calls.quiet_of (unhide HFD2 _)) | (go_at_call 21; exact Calls.quiet_of_same (unhide HHB2 _)))
        have B34 := hide (below_drewN (Below.refl w3.heap.size w3) nq)
        have v2 := ((unhide B34).cell (p := ⟨X, 2, none⟩) hz3).trans u2
        have e0 := ((unhide B34).cell (p := ⟨p0, 2, none⟩) hp0).trans c0
        have e1 := ((unhide B34).cell (p := ⟨p1, 2, none⟩) hp1).trans c1
        have hs34 : (w3.drewN nq).heap.size = w3.heap.size := rfl
        have hq0 : p0 < (w3.drewN nq).heap.size := hp0
        have hq1 : p1 < (w3.drewN nq).heap.size := hp1
        generalize w3.drewN nq = w4 at *
        clear u2 c0 c1
        have HNF := hide (newFork_any an p0 p1 h0 h1 w4 han hsz0 hsz1 (unhide HNE) hq0 hq1 e0 e1)
        have hkv : kidsV h0 h1 an p0 p1 = (p0, p1) := by unfold kidsV; rw [if_pos (unhide HBZ)]
        rw [hkv] at HNF
        clear hkv e0 e1
        have HS4 := hide hs34
        clear hs34
        go_wp2_with fail
        refine (unhide HNF).mono ?_
        rintro e w5 ⟨f, rfl, hf, hfb, hb5⟩
        have B35 := hide ((unhide B34).trans (hb5.mono (unhide B34).size))
        have RR := hide (And.intro hf hfb)
        clear hf hfb hb5 HNF
        go_wp2_with fail
        go_ret
        have hf5 := (unhide RR).2.1
        have hf4 := (unhide RR).1
        have hs4 := unhide HS4
        have h35 := (unhide B35).size
        have T35 := Touch.ofBelow (T := fun x => x = rb) (unhide B35)
        refine NodeR.yes (unhide HRF) ?_ ((unhide R3).below (unhide B35)) ((unhide T3).trans T35 (fun _ _ h => h))
        have hXX : w.heap.size = X := hX
        refine .fork _ (fun x => w1.heap.size ≤ x ∧ x < w2.heap.size) (fun x => w2.heap.size ≤ x ∧ x < w3.heap.size) f an h0 t0 t1 p0 p1 ⟨by omega, hf5⟩ (fun x hx => ⟨⟨by omega, by omega⟩, by omega⟩) (fun x hx => ⟨⟨by omega, by omega⟩, by omega⟩) (fun x h1 h2 => by omega) (unhide RR).2 ((unhide N3).blw (unhide B35)) ((unhide M3).blw (unhide B35))
      · rw [if_neg (fun h => hb0 h.2)] at HRF
        have hb1 : bitN h0 an = 1 := by rcases unhide HB01 with h | h; exact absurd h hb0; exact h
        have HHB2 : Hid (∀ wx, Calls Tryd.prog 21 #[.string h0, .int .i64 an] wx fun e w' => e = .returned (.int .i64 1) ∧ w' = wx) := hide (fun wx => by have := unhide HHB wx; rw [hb1] at this; exact this)
        clear HHB hfd hb0 hb1 hne hfle
        go_quiet (first | (go_at_call 78; exact Calls.quiet_of (unhide HFD2 _)) | (go_at_call 21; exact Calls.quiet_of_same (unhide HHB2 _)))
        have T4 := hide ((unhide T3).drewN nq)
        generalize w3.drewN nq = w4 at *
        go_wp2_with fail
        go_ret
        exact NodeR.no (unhide HRF) (unhide T4)
    · rw [if_neg (fun h => hfd h.1)] at HRF
      clear HFI
      generalize fd h0 h1 = fdv at *
      have hd1 : (((fdv : Nat) : Int) == (an : Int)) = false := by rw [beq_eq_false_iff_ne]; omega
      have hd2 : (((fdv : Nat) : Int) != (an : Int)) = true := by simp; omega
      have hd3 : (fdv == an) = false := by rw [beq_eq_false_iff_ne]; exact hfd
      have hd4 : (fdv != an) = true := by simpa using hfd
      go_quiet (first | (go_at_call 78; exact Calls.quiet_of (unhide HFD _)) | (go_at_call 21; exact Calls.quiet_of_same (unhide HHB _)))
      have T4 := hide ((unhide T3).drewN nq)
      generalize w3.drewN nq = w4 at *
      go_wp2_with fail
      go_ret
      exact NodeR.no (unhide HRF) (unhide T4)
end Go.Proofs.YtnajpeaieeaflaaDoor.Sha
