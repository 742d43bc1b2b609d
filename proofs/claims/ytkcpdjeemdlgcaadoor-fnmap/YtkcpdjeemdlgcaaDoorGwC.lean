/- (*mapNode).lead, its leaf known ahead. impl.MapPut. Pure: a right map read again from its branch; a key that is put and dropped again leaves the root; a key that was dropped is not there. The keys that the laws draw (24), those that fill a map (k0 .. k39): no two have one hash. A text of one byte. The root of a map: impl's. Pure: a key that is put into a map of drawn keys and dropped again. A source of choices: keys of maps, data, sizes. strconv.Itoa of a number below 100: by the library's own contract of internal/strconv.small, laid at this program; the three functions above it walked. Short forms of the steps of a region that draws (claims are bounded in size). spec.l00Digits of a number below 100. A drawn map (spec.branch), a drawn key. MapOf, MapKeyOf: a drawn map, a drawn key, of bytes that came in. spec.MapDrop. spec.MapPut. -/
import Derived.Test.YtkcpdjeemdlgcaaDoorBrU
import Derived.Test.YtkcpdjeemdlgcaaDoorGwA
import Derived.Test.YtkcpdjeemdlgcaaDoorQb
import Derived.Test.YtkcpdjeemdlgcaaDoorWst
import Derived.Deep.DeepCutAuto
import Derived.Test.YtkcpdjeemdlgcaaDoorGwB
import Derived.Test.YtkcpdjeemdlgcaaDoorBrP
import Derived.Test.YtkcpdjeemdlgcaaDoorMkA
import Derived.Test.YtkcpdjeemdlgcaaDoorBrT
import Derived.Test.YtkcpdjeemdlgcaaDoorBrS
import Derived.Deep.RegionHeldLaw
import Derived.Lib.SlBytesConst
import Derived.Test.YtkcpdjeemdlgcaaDoorSrcP
import Derived.Test.YtkcpdjeemdlgcaaDoorIn
import Derived.Shelf.Strconv.Itoa1
import Derived.Test.YtkcpdjeemdlgcaaDoorBase
import Derived.Test.YtkcpdjeemdlgcaaDoorBlk
import Derived.Deep.RegionHeld3
import Derived.Test.YtkcpdjeemdlgcaaDoorSet4
import Derived.Deep.RegionLaw
import Derived.Deep.Cut
import Derived.Deep.CutBlock
namespace Go.Proofs.YtkcpdjeemdlgcaaDoor.Sha
open Go.ChangeShapes Go.WideShapes Go.ChangeAt Go.RowKit
set_option linter.unusedVariables false
set_option linter.unusedSimpArgs false

/-- From node p the bits of h lead to the leaf q. -/
inductive LdQ (w : World) (h : ByteArray) : Nat → Tr → Nat → Prop
  | leaf (p : Nat) (k v : ByteArray) : LdQ w h p (.leaf k v) p
  | fork (p a : Nat) (hv : ByteArray) (l r : Tr) (pl pr q : Nat) : Blk w p (fkC hv a pl pr) → (bitN h a = 0 → LdQ w h pl l q) → (bitN h a = 1 → LdQ w h pr r q) → LdQ w h p (.fork a hv l r) q
theorem LdQ.blw {w w' : World} {h : ByteArray} {p q : Nat} {t : Tr} (hl : LdQ w h p t q) (hb : Below w.heap.size w w') : LdQ w' h p t q := by
  induction hl with
  | leaf p k v => exact .leaf p k v
  | fork p a hv l r pl pr q h1 h2 h3 i2 i3 => exact .fork p a hv l r pl pr q (h1.below hb) i2 i3
theorem LdQ.down {w : World} {h : ByteArray} {p a q pl pr : Nat} {hv : ByteArray} {l r : Tr} (hl : LdQ w h p (.fork a hv l r) q) (hb : Blk w p (fkC hv a pl pr)) : (bitN h a = 0 → LdQ w h pl l q) ∧ (bitN h a = 1 → LdQ w h pr r q) := by
  cases hl with
  | fork p a hv l r pl2 pr2 q h1 h2 h3 =>
    have e4 := (h1.cell 4 rfl).symm.trans (hb.cell 4 rfl)
    have e5 := (h1.cell 5 rfl).symm.trans (hb.cell 5 rfl)
    simp only [Option.some.injEq, Value.pointer.injEq, Addr.mk.injEq] at e4 e5
    obtain rfl := e4.1
    obtain rfl := e5.1
    exact ⟨h2, h3⟩
theorem ldq_of {w : World} {S : Nat → Prop} {p : Nat} {t : Tr} (h : ByteArray) (hn : Nd w S p t) : ∃ q, LdQ w h p t q ∧ Blk w q (lfC (leadL h t).1 (leadL h t).2) := by
  induction hn with
  | leaf S p k v h0 h1 => exact ⟨p, .leaf p k v, h1⟩
  | fork S Sl Sr p a hv l r pl pr h0 h1 h2 h3 h4 h5 h6 i5 i6 =>
    rcases bitN_01 h a with hb | hb
    · obtain ⟨q, q1, q2⟩ := i5
      refine ⟨q, .fork p a hv l r pl pr q h4 (fun _ => q1) (fun e => by omega), ?_⟩
      have e : leadL h (.fork a hv l r) = leadL h l := by show (if bitN h a = 0 then _ else _) = _; rw [if_pos hb]
      rw [e]; exact q2
    · obtain ⟨q, q1, q2⟩ := i6
      refine ⟨q, .fork p a hv l r pl pr q h4 (fun e => by omega) (fun _ => q1), ?_⟩
      have e : leadL h (.fork a hv l r) = leadL h r := by show (if bitN h a = 0 then _ else _) = _; rw [if_neg (by omega)]
      rw [e]; exact q2
set_option maxRecDepth 100000 in
set_option maxHeartbeats 2000000 in
theorem leadQ_any (h : ByteArray) (hh : h.size = 32) (w : World) (S : Nat → Prop) (p q : Nat) (t : Tr) (hn : Nd w S p t) (hr : Rise 0 t) (hq : LdQ w h p t q) :
    Calls Tryd.prog 31 #[.pointer (some ⟨p, 0, none⟩), .string h] w fun e w' => e = .returned (.pointer (some ⟨q, 0, none⟩)) ∧ ∃ n, w' = w.drewN n := by
  have HN := hide hn
  have HR := hide hr
  have HQ := hide hq
  clear hn hr hq
  go_enter Tryd.func31, Tryd.ntmps31
  go_wp2_with fail
  go_loopw [0] (fun nv wr => ∃ (p' m : Nat) (t' : Tr) (S' : Nat → Prop), nv = .pointer (some ⟨p', 0, none⟩) ∧ Nd wr S' p' t' ∧ Rise m t' ∧ LdQ wr h p' t' q ∧ ∃ n, wr = w.drewN n) (fun nv wr => 256 - atCell nv wr)
  case atStart => exact ⟨p, 0, t, S, rfl, unhide HN, unhide HR, unhide HQ, 0, rfl⟩
  case round =>
    clear HN HR HQ
    obtain ⟨p', m, t', S', rfl, hn, hr, hl, n, hw⟩ := hrel
    have HW := hide hw
    have HL := hide hl
    have HA := hide (atCell_is hn.atC)
    clear hw hl
    cases hn with
    | leaf S' p' k v h0 h1 =>
      have x3 := h1.cell 3 rfl
      have X := hide h1
      clear h1 hr HA
      go_wp2_with fail
      go_ret
      have h9 : p' = q := by cases unhide HL with | leaf => rfl
      subst h9
      exact ⟨rfl, n, unhide HW⟩
    | fork S' Sl Sr p' a hv l r pl pr h0 h1 h2 h3 h4 h5 h6 =>
      obtain ⟨r0, r1, r2, r3⟩ := hr
      have x3 := h4.cell 3 rfl
      have x4 := h4.cell 4 rfl
      have x5 := h4.cell 5 rfl
      have HB := hide (fun wx => hashBit_any h a wx hh r1)
      have ha : (a : Int) < 256 := by omega
      have HE : Hid ((bitN h a = 0 → LdQ wr h pl l q) ∧ (bitN h a = 1 → LdQ wr h pr r q)) := hide (unhide HL |>.down h4)
      have HN5 := hide h5
      have HN6 := hide h6
      clear h1 h2 h3 h4 h5 h6 h0
      rcases bitN_01 h a with hb | hb
      · rw [hb] at HB
        have HE2 := hide ((unhide HE).1 hb)
        clear HE
        go_wp2_with fail
        go_quiet (first | (go_at_call 48; exact Calls.quiet_of_same (unhide HB _)))
        have N2 := hide ((unhide HN5).blw (below_drewN (Below.refl _ wr) nq))
        have HW2 : Hid (∃ n', wr.drewN nq = w.drewN n') := hide ⟨n + nq, by rw [unhide HW, World.drewN_drewN]⟩
        have HE3 := hide ((unhide HE2).blw (below_drewN (Below.refl _ wr) nq))
        clear HE2
        generalize wr.drewN nq = w2 at *
        go_wp2_with fail
        have hat := atCell_is (unhide N2).atC
        have hle := r2.le
        have hle2 := r2.le256
        have hA := unhide HA
        refine ⟨⟨pl, a + 1, l, Sl, rfl, unhide N2, r2, ?_, unhide HW2⟩, ?_⟩
        · exact unhide HE3
        · rw [hat, hA]; show 256 - l.at_ < 256 - a; omega
      · rw [hb] at HB
        have HE2 := hide ((unhide HE).2 hb)
        clear HE
        go_wp2_with fail
        go_quiet (first | (go_at_call 48; exact Calls.quiet_of_same (unhide HB _)))
        have N2 := hide ((unhide HN6).blw (below_drewN (Below.refl _ wr) nq))
        have HW2 : Hid (∃ n', wr.drewN nq = w.drewN n') := hide ⟨n + nq, by rw [unhide HW, World.drewN_drewN]⟩
        have HE3 := hide ((unhide HE2).blw (below_drewN (Below.refl _ wr) nq))
        clear HE2
        generalize wr.drewN nq = w2 at *
        go_wp2_with fail
        have hat := atCell_is (unhide N2).atC
        have hle := r3.le
        have hle2 := r3.le256
        have hA := unhide HA
        refine ⟨⟨pr, a + 1, r, Sr, rfl, unhide N2, r3, ?_, unhide HW2⟩, ?_⟩
        · exact unhide HE3
        · rw [hat, hA]; show 256 - r.at_ < 256 - a; omega
end Go.Proofs.YtkcpdjeemdlgcaaDoor.Sha
namespace Go.Proofs.YtkcpdjeemdlgcaaDoor.Sha
open Go.ChangeShapes Go.WideShapes Go.ChangeAt Go.RowKit
set_option linter.unusedVariables false
set_option linter.unusedSimpArgs false

/-- The hash of the leaf that a key's hash leads to. -/
def leadH (o : Option Tr) (key : ByteArray) : ByteArray := match o with
  | none => ⟨#[]⟩
  | some t => kh (leadL (kh key) t).1
def fullB (o : Option Tr) (key : ByteArray) : Bool := decide (lvO o = 40) && decide (leadH o key ≠ kh key)
/-- What MapPut answers of a map. -/
def mpO (o : Option Tr) (key val : ByteArray) : Br × Int := match o with
  | none => (brOf (some (.leaf key val)), 0)
  | some t => if putAt t key < 256 ∧ t.lvN = 40 then (brOf none, 7) else (brOf (some (putT (kh key) (putAt t key) key val t)), 0)
def opC (b : Br) (key : ByteArray) : Int := if txC key.size 1 24 = 0 then (match mapV b with | none => 1 | some _ => 0) else txC key.size 1 24
def mpOut (b : Br) (key val : ByteArray) : Br × Int := if mxI (opC b key) (txC val.size 0 60) = 0 then (match mapV b with
    | none => (brOf none, 0)
    | some o => mpO o key val)
  else (brOf none, mxI (opC b key) (txC val.size 0 60))
theorem mxI_zero {a b : Int} (h0 : 0 ≤ a) (h1 : 0 ≤ b) (h : mxI a b = 0) : a = 0 ∧ b = 0 := by unfold mxI at h; split at h <;> omega
theorem txC_lo (n : Nat) (lo hi : Int) : 0 ≤ txC n lo hi := by rcases txC_cases n lo hi with h | h | h <;> omega
theorem txC_val {n : Nat} (h : txC n 0 60 = 0) : n ≤ 60 := by
  unfold txC at h
  split at h
  · omega
  · split at h
    · rename_i h2; have := inB_iff.1 h2; omega
    · omega
set_option maxRecDepth 100000 in
set_option maxHeartbeats 4000000 in
theorem implMapPut_any (k v : ByteArray) (a : Int) (ks : List Br) (key val : ByteArray) (S : Nat → Prop) (kv : Value) (w : World) (hB : Brs S w kv ks) (hk : k.size ≤ maxLen) (hv : v.size ≤ maxLen) (hky : key.size ≤ 1048576) (hvl : val.size ≤ 1048576) (ht : Tab w) :
    Calls Tryd.prog 7 #[.agg #[.string k, .string v, .int .i64 a, kv], .string key, .string val] w fun e w' => ∃ u, e = .returned (.tuple #[u, .int .i64 (mpOut (.mk k v a ks) key val).2]) ∧ BrV w.heap.size w' u (mpOut (.mk k v a ks) key val).1 ∧ Below w.heap.size w w' := by
  obtain ⟨sa, cap, rfl, hcap, hcm⟩ := hB.shape
  have B0 := hide ((Below.refl w.heap.size w).alloc (Nat.le_refl _) (.cells #[.string k, .string v, .int .i64 a, .slice sa ks.length cap] 27))
  have R0 := hide (Blk.new (w.alloc (.cells #[.string k, .string v, .int .i64 a, .slice sa ks.length cap] 27)) #[.string ⟨#[]⟩, .string ⟨#[]⟩, .int .i64 0, .slice none 0 0] 27 (w.heap.size + 1) (by simp))
  have B1 := hide ((unhide B0).alloc (unhide B0).size (.cells #[.string ⟨#[]⟩, .string ⟨#[]⟩, .int .i64 0, .slice none 0 0] 27))
  have HR := hide (openMap_any k v a ks key S _ _ ((hB.blw (unhide B0)).blw ((Below.refl _ _).alloc (Nat.le_refl _) (.cells #[.string ⟨#[]⟩, .string ⟨#[]⟩, .int .i64 0, .slice none 0 0] 27))) hk hv hky (ht.below (unhide B1)))
  have HT := hide ht
  have HRI := hide (fun o => mapV_rise (b := .mk k v a ks) (o := o))
  have HBR := hide (fun o => mapV_br (b := .mk k v a ks) (o := o))
  have HSE := hide (fun o => mapV_sep (b := .mk k v a ks) (o := o))
  have HSZ := hide (show w.heap.size ≤ w.heap.size + 1 by omega)
  have HTX := hide (fun wx => textFault_any val 0 60 wx (by unfold maxLen; omega))
  have hvc0 := txC_lo val.size 0 60
  have HVC := hide (fun (h : txC val.size 0 60 = 0) => txC_val h)
  have HKC := hide (fun (h : txC key.size 1 24 = 0) => txC_key h)
  have HOD : Hid (mpOut (.mk k v a ks) key val = if mxI (opC (.mk k v a ks) key) (txC val.size 0 60) = 0 then (match mapV (.mk k v a ks) with | none => (brOf none, 0) | some o => mpO o key val) else (brOf none, mxI (opC (.mk k v a ks) key) (txC val.size 0 60))) := rfl
  generalize txC val.size 0 60 = vc at *
  clear hB ht hk hv B0
  go_enter Tryd.func7, Tryd.ntmps7
  go_wp2_with fail
  generalize (w.alloc (.cells #[.string k, .string v, .int .i64 a, .slice sa ks.length cap] 27)).alloc (.cells #[.string ⟨#[]⟩, .string ⟨#[]⟩, .int .i64 0, .slice none 0 0] 27) = w1 at *
  generalize w.heap.size + 1 = rb at *
  refine (unhide HR).mono ?_
  rintro e w2 ⟨pv, c, rfl, hb, hcs⟩
  have B2 := hide ((unhide B1).trans (hb.mono (unhide B1).size))
  have R2 := hide ((unhide R0).below hb)
  have S1 := hide (And.intro (unhide R0).1 (And.intro (unhide B1).size hb.size))
  have hoc : opC (.mk k v a ks) key = c ∧ 0 ≤ c := by
    rcases hcs with ⟨h1, h2, h3⟩ | ⟨h1, h2, h3, h4⟩ | ⟨h1, h2, o, h3, h4⟩
    · exact ⟨by unfold opC; rw [if_neg h1, h2], by rw [h2]; exact txC_lo _ _ _⟩
    · exact ⟨by unfold opC; rw [if_pos h1, h2, h3], by omega⟩
    · exact ⟨by unfold opC; rw [if_pos h1, h3, h2], by omega⟩
  rw [hoc.1] at HOD
  have hc0 := hoc.2
  have HCS := hide hcs
  have HWS := hide (fun b wx h0 h1 => worst_any c vc b wx hc0 hvc0 h0 h1)
  have HMZ := hide (fun h => mxI_zero hc0 hvc0 h)
  generalize mxI c vc = mx at *
  clear hb HR R0 B1 hcs hoc
  go_wp2_with fail
  refine (unhide HTX _).mono ?_
  rintro e w9 ⟨rfl, hw9⟩
  subst w9
  have N2 := Blk.new w2 #[.int .i64 c, .int .i64 vc] 3 w2.heap.size rfl
  have BA := (Below.refl w2.heap.size w2).alloc (Nat.le_refl _) (.cells #[.int .i64 c, .int .i64 vc] 3)
  have B3 := hide ((unhide B2).trans (BA.mono (unhide B2).size))
  have R3 := hide ((unhide R2).below BA)
  have HW := hide (unhide HWS w2.heap.size (w2.alloc (.cells #[.int .i64 c, .int .i64 vc] 3)) (N2.cell 0 rfl) (N2.cell 1 rfl))
  have BA2 := hide BA
  clear N2 BA HWS
  go_wp2_with fail
  refine (unhide HW).mono ?_
  rintro e w9 ⟨rfl, hw9⟩
  subst w9
  generalize w2.alloc (.cells #[.int .i64 c, .int .i64 vc] 3) = w3 at *
  by_cases hmx : mx = 0
  · obtain ⟨hcz, hvz⟩ := unhide HMZ hmx
    have hval := unhide HVC hvz
    obtain ⟨hkt, o, hmo, hptr⟩ : txC key.size 1 24 = 0 ∧ ∃ o, mapV (.mk k v a ks) = some o ∧ PtrM w2 (fun x => w1.heap.size ≤ x ∧ x < w2.heap.size) pv o := by
      rcases unhide HCS with ⟨h1, h2, h3⟩ | ⟨h1, h2, h3, h4⟩ | ⟨h1, h2, o, h3, h4⟩
      · exact absurd (h2.symm.trans hcz) h1
      · omega
      · exact ⟨h1, o, h3, h4⟩
    have hkey := unhide HKC hkt
    have HO : Hid (mpOut (.mk k v a ks) key val = mpO o key val) := hide (by rw [unhide HOD, if_pos hmx, hmo])
    have HRO := hide (unhide HRI o hmo)
    have HOK := hide (unhide HBR o hmo).2
    have HSP := hide (unhide HSE o hmo)
    have P3 := hide (hptr.blw (unhide BA2))
    have HNL := hide (newLeaf_any key val w3 (by omega) ((unhide HT).below (unhide B3)))
    have HKV := hide (show TrOK (.leaf key val) from ⟨okK_iff.2 hkey, hval⟩)
    have hsz23 := (unhide BA2).size
    have HS23 := hide (And.intro (unhide S1).2.1 (And.intro (unhide S1).1 hsz23))
    clear HCS HOD HMZ HRI HBR HSE HVC HKC hptr hmo hsz23 HW HTX BA2 B2 R2
    subst hmx hcz hvz
    go_wp2_with fail
    refine (unhide HNL).mono ?_
    rintro e w4 ⟨q, rfl, hq0, hqB, hb4⟩
    have B4 := hide ((unhide B3).trans (hb4.mono (unhide B3).size))
    have R4 := hide ((unhide R3).below hb4)
    have P4 := hide ((unhide P3).blw hb4)
    have QB := hide hqB
    have Q0 := hide (And.intro hq0 hb4.size)
    clear hb4 hqB hq0 HNL B3 R3 P3
    have hkk := kh_size (k := key) (by omega)
    have h40 : lvO o ≤ 40 := by cases o with | none => exact Nat.zero_le _ | some t => exact (unhide HSP).2
    have HSI := hide (fun (x : Wb w4) => sizeO_any ((unhide P4).blw x.below) (unhide HOK) (by omega))
    have HPT := hide (fun wx (hbx : Below w4.heap.size w4 wx) => put_any key val (by omega) wx _ pv q o ((unhide P4).blw hbx) (unhide HRO) (unhide HSP) (unhide HOK) (fun b hb => by have := hbx.size; have := (unhide Q0).2; have := (unhide HS23).2.2; omega) ((unhide QB).below hbx) (fun e => by have := (unhide Q0).1; have := (unhide HS23).2.2; omega))
    have HPO : Hid (TrOK (putO o key val)) := hide (by
      cases o with
      | none => exact unhide HKV
      | some t => exact putT_ok (kh key) (putAt t key) key val (fd_le _ _) hkk (unhide HKV).1 (unhide HKV).2 t (unhide HOK))
    have HOA : Hid (mpOut (.mk k v a ks) key val = if fullB o key = true then (brOf none, 7) else ((putO o key val).toBr, 0)) := hide (by
      rw [unhide HO]
      cases o with
      | none => rfl
      | some t =>
        have hlo := lead_ok (kh key) t (unhide HOK)
        have hlk := kh_size (k := (leadL (kh key) t).1) (by have := (okK_iff.1 hlo.1).2; omega)
        show (if putAt t key < 256 ∧ t.lvN = 40 then _ else _) = _
        by_cases hc : putAt t key < 256 ∧ t.lvN = 40
        · rw [if_pos hc, if_pos (by unfold fullB; rw [decide_eq_true (show lvO (some t) = 40 from hc.2), decide_eq_true (show leadH (some t) key ≠ kh key from (fd_ne hlk hkk).1 hc.1)]; rfl)]
        · rw [if_neg hc, if_neg (fun hx => by unfold fullB at hx; rw [Bool.and_eq_true] at hx; exact hc ⟨(fd_ne hlk hkk).2 (of_decide_eq_true hx.2), of_decide_eq_true hx.1⟩)]; rfl)
    have HFB : Hid (fullB o key = (decide (lvO o = 40) && decide (leadH o key ≠ kh key))) := rfl
    have HLD : Hid (∀ t p ql, o = some t → pv = some ⟨p, 0, none⟩ → Nd w4 (fun x => w1.heap.size ≤ x ∧ x < w2.heap.size) p t → LdQ w4 (kh key) p t ql → ∀ x : Wb w4, Calls Tryd.prog 31 #[.pointer (some ⟨p, 0, none⟩), .string (kh key)] x.at_ fun e w' => e = .returned (.pointer (some ⟨ql, 0, none⟩)) ∧ ∃ n, w' = x.at_.drewN n) := hide (fun t p ql ho hpv hn hl x => by
      subst ho
      exact leadQ_any (kh key) hkk x.at_ _ p ql t (hn.blw x.below) (unhide HRO) (hl.blw x.below))
    have HLQ : Hid (∀ t, o = some t → ∀ p, Nd w4 (fun x => w1.heap.size ≤ x ∧ x < w2.heap.size) p t → ∃ q, LdQ w4 (kh key) p t q ∧ Blk w4 q (lfC (leadL (kh key) t).1 (leadL (kh key) t).2)) := hide (fun t _ p hn => ldq_of (kh key) hn)
    have HQL := hide (unhide QB).1
    have HQ2 := hide (fun wx (hbx : Below w4.heap.size w4 wx) => ((unhide QB).below hbx).cell 2 rfl)
    have HLT : Hid (∀ t, o = some t → leadH o key = kh (leadL (kh key) t).1) := hide (fun t ht => by subst ht; rfl)
    generalize putO o key val = D at *
    generalize fullB o key = fb at *
    generalize leadH o key = lh at *
    generalize kh key = hh at *
    clear hkk HO h40 QB
    go_upto_region 6 with fail
    go_cut [47] (fun s wx => s = .bool fb ∧ Below w4.heap.size w4 wx)
    case first =>
      by_cases hsz : lvO o = 40
      · cases o with
        | none => exact absurd hsz (by decide)
        | some t =>
          obtain ⟨p, rfl, hn⟩ := unhide P4
          obtain ⟨ql, hld, hqb⟩ := unhide HLQ t rfl p hn
          have HLDt := hide (fun (x : Wb w4) => unhide HLD t p ql rfl rfl hn hld x)
          have HLt := unhide HLT t rfl
          have HSI2 := hide (fun (x : Wb w4) => unhide HSI x)
          rw [hsz] at HSI2
          have cl := Wb.cell (hqb.cell 2 rfl) hqb.1
          rw [← HLt] at cl
          have q2 := Wb.cell (unhide HQ2 w4 (Below.refl _ _)) (unhide HQL)
          have HF2 : fb = decide (lh ≠ hh) := by rw [unhide HFB, hsz]; simp
          clear hn hsz HSI HLD HLT HFB P4 HOA HPT HPO HLt hqb hld HLQ HQ2
          by_cases he : lh = hh
          · obtain rfl : fb = false := by rw [HF2]; simp [he]
            have he2 := list_eq he
            subst he
            clear HF2
            go_wp2_with fail
            refine wp_region_wb (by kernel_rfl) (by kernel_rfl) ?_
            repeat (go_big_quiet_step (first | (go_at_call 30; exact wb_of (unhide HSI2 _)) | (go_at_call 31; exact wb_drew (unhide HLDt _))))
            refine wpQuiet_nil ?_
            intro _ hw'
            obtain ⟨⟨w5, hb5⟩, rfl⟩ := hw'
            go_wp2_with fail
            go_meet
            exact ⟨by first | rfl | simp, hb5⟩
          · obtain rfl : fb = true := by rw [HF2]; simp [he]
            have he2 := list_ne he
            clear HF2
            go_wp2_with fail
            refine wp_region_wb (by kernel_rfl) (by kernel_rfl) ?_
            repeat (go_big_quiet_step (first | (go_at_call 30; exact wb_of (unhide HSI2 _)) | (go_at_call 31; exact wb_drew (unhide HLDt _))))
            refine wpQuiet_nil ?_
            intro _ hw'
            obtain ⟨⟨w5, hb5⟩, rfl⟩ := hw'
            go_wp2_with fail
            go_meet
            exact ⟨by first | rfl | simp, hb5⟩
      · have hsz2 : ¬ (lvO o : Int) = 40 := by omega
        have hsz3 : ((lvO o : Int) == 40) = false := by rw [beq_eq_false_iff_ne]; exact hsz2
        have hsz4 : decide ((lvO o : Int) = 40) = false := by rw [decide_eq_false_iff_not]; exact hsz2
        obtain rfl : fb = false := by rw [unhide HFB, decide_eq_false hsz]; rfl
        clear HFB HLD HLT HOA HPT HPO P4 HLQ
        generalize lvO o = sz at *
        go_wp2_with fail
        refine wp_region_wb (by kernel_rfl) (by kernel_rfl) ?_
        repeat (go_big_quiet_step ((go_at_call 30; exact wb_of (unhide HSI _))))
        refine wpQuiet_nil ?_
        intro _ hw'
        obtain ⟨⟨w5, hb5⟩, rfl⟩ := hw'
        go_wp2_with fail
        go_meet
        exact ⟨rfl, hb5⟩
    case rest =>
      obtain ⟨rfl, hbc⟩ := hcut
      have HBX := hide hbc
      have B6 := hide ((unhide B4).trans (hbc.mono (unhide B4).size))
      have R6 := hide ((unhide R4).below hbc)
      clear hbc B4 R4 HLD HLT HFB HSI HQ2 HLQ
      cases fb with
      | true =>
        have HO7 : Hid (mpOut (.mk k v a ks) key val = (brOf none, 7)) := unhide HOA
        clear HOA HPT
        have R5 := R6
        have hE := end4b (b := brOf none) (m := rb + 1) (unhide R6) (unhide B6) (BrO.nil (fun x => rb + 1 ≤ x ∧ x < _) none 0 (by unfold maxLen; omega)) (unhide HSZ) (Nat.lt_succ_self _)
        have r0 := (unhide R5).cell 0 rfl
        have r1 := (unhide R5).cell 1 rfl
        have r2 := (unhide R5).cell 2 rfl
        have r3 := (unhide R5).cell 3 rfl
        have f0 := (unhide R5).fro 0
        have f1 := (unhide R5).fro 1
        have f2 := (unhide R5).fro 2
        have f3 := (unhide R5).fro 3
        have z0 := hE.1.cell 0 rfl
        have z1 := hE.1.cell 1 rfl
        have z2 := hE.1.cell 2 rfl
        have z3 := hE.1.cell 3 rfl
        have HE := hide hE
        unfold set4 at z0 z1 z2 z3
        dsimp only [brOf, Br.key, Br.val, Br.at_] at z0 z1 z2 z3
        clear hE
        go_wp2_with fail
        refine bodyPost_ret (v := .tuple #[.agg #[.string ⟨#[]⟩, .string ⟨#[]⟩, .int .i64 0, .slice none 0 0], .int .i64 7]) (by simp [results, Tryd.results7, go_sem, z0, z1, z2, z3]) rfl ?_
        exact ⟨_, by rw [unhide HO7], by rw [unhide HO7]; exact (unhide HE).2.1, (unhide HE).2.2⟩
      | false =>
        have HO0 : Hid (mpOut (.mk k v a ks) key val = (D.toBr, 0)) := unhide HOA
        clear HOA
        go_wp2_with fail
        refine (unhide HPT _ (unhide HBX)).mono ?_
        rintro e w7 ⟨p7, rfl, hn7, hT7⟩
        have B7 := hide ((unhide B6).trans (hT7.below (B := w.heap.size) (unhide B6).size (fun b hb e => by have := (unhide HS23).1; omega)))
        have R7 := hide ((unhide R6).kept hT7 (fun e => by have := (unhide HS23).2.1; omega))
        have HBC := hide (branch_any hn7 (unhide HPO) w7 (Below.refl _ _))
        clear hn7 hT7 B6 R6
        go_wp2_with fail
        refine (unhide HBC).mono ?_
        rintro e w8 ⟨sa5, n5, c5, rfl, hO5, hb5⟩
        have R5 := hide ((unhide R7).below hb5)
        have B5 := hide ((unhide B7).trans (hb5.mono (unhide B7).size))
        have hE := end4b (unhide R5) (unhide B5) hO5 (unhide HSZ) (unhide R7).1
        clear hb5 hO5 HBC B7
        have r0 := (unhide R5).cell 0 rfl
        have r1 := (unhide R5).cell 1 rfl
        have r2 := (unhide R5).cell 2 rfl
        have r3 := (unhide R5).cell 3 rfl
        have f0 := (unhide R5).fro 0
        have f1 := (unhide R5).fro 1
        have f2 := (unhide R5).fro 2
        have f3 := (unhide R5).fro 3
        have z0 := hE.1.cell 0 rfl
        have z1 := hE.1.cell 1 rfl
        have z2 := hE.1.cell 2 rfl
        have z3 := hE.1.cell 3 rfl
        have HE := hide hE
        unfold set4 at z0 z1 z2 z3
        clear hE
        go_wp2_with fail
        refine bodyPost_ret (v := .tuple #[.agg #[.string D.toBr.key, .string D.toBr.val, .int .i64 D.toBr.at_, .slice sa5 n5 c5], .int .i64 0]) (by simp [results, Tryd.results7, go_sem, z0, z1, z2, z3]) rfl ?_
        exact ⟨_, by rw [unhide HO0], by rw [unhide HO0]; exact (unhide HE).2.1, (unhide HE).2.2⟩
  · have HO : Hid (mpOut (.mk k v a ks) key val = (brOf none, mx)) := hide (by rw [unhide HOD, if_neg hmx])
    have hcb : (mx != 0) = true := by simpa using hmx
    clear HOD HMZ hmx
    have r0 := (unhide R3).cell 0 rfl
    have r1 := (unhide R3).cell 1 rfl
    have r2 := (unhide R3).cell 2 rfl
    have r3 := (unhide R3).cell 3 rfl
    have f0 := (unhide R3).fro 0
    have f1 := (unhide R3).fro 1
    have f2 := (unhide R3).fro 2
    have f3 := (unhide R3).fro 3
    have hE := end4b (b := brOf none) (m := rb + 1) (unhide R3) (unhide B3) (BrO.nil (fun x => rb + 1 ≤ x ∧ x < _) none 0 (by unfold maxLen; omega)) (unhide HSZ) (Nat.lt_succ_self _)
    have z0 := hE.1.cell 0 rfl
    have z1 := hE.1.cell 1 rfl
    have z2 := hE.1.cell 2 rfl
    have z3 := hE.1.cell 3 rfl
    have HE := hide hE
    unfold set4 at z0 z1 z2 z3
    dsimp only [brOf, Br.key, Br.val, Br.at_] at z0 z1 z2 z3
    clear hE
    go_wp2_with fail
    refine bodyPost_ret (v := .tuple #[.agg #[.string ⟨#[]⟩, .string ⟨#[]⟩, .int .i64 0, .slice none 0 0], .int .i64 mx]) (by simp [results, Tryd.results7, go_sem, z0, z1, z2, z3]) rfl ?_
    exact ⟨_, by rw [unhide HO], by rw [unhide HO]; exact (unhide HE).2.1, (unhide HE).2.2⟩
end Go.Proofs.YtkcpdjeemdlgcaaDoor.Sha
namespace Go.Proofs.YtkcpdjeemdlgcaaDoor.Sha
open Go.ChangeShapes Go.WideShapes Go.ChangeAt Go.RowKit
set_option linter.unusedVariables false
set_option linter.unusedSimpArgs false

/-- A map as it is read: each fork's hash is its first leaf's. -/
def Tr.nrm : Tr → Tr
  | .leaf k v => .leaf k v
  | .fork a _ l r => .fork a l.nrm.hash l.nrm r.nrm
theorem nrm_at (t : Tr) : t.nrm.at_ = t.at_ := by cases t <;> rfl
theorem nrm_lvN : ∀ t : Tr, t.nrm.lvN = t.lvN
  | .leaf _ _ => rfl
  | .fork a h l r => by show l.nrm.lvN + r.nrm.lvN = _; rw [nrm_lvN l, nrm_lvN r]; rfl
theorem nrm_trR : ∀ t : Tr, trR t.nrm = trR t
  | .leaf _ _ => rfl
  | .fork a h l r => by show fkR a (trR l.nrm) (trR r.nrm) = fkR a (trR l) (trR r); rw [nrm_trR l, nrm_trR r]
theorem nrm_lead (h : ByteArray) : ∀ t : Tr, leadL h t.nrm = leadL h t
  | .leaf _ _ => rfl
  | .fork a hh l r => by
    show (if bitN h a = 0 then leadL h l.nrm else leadL h r.nrm) = (if bitN h a = 0 then leadL h l else leadL h r)
    rw [nrm_lead h l, nrm_lead h r]
theorem nrm_toBr : ∀ t : Tr, t.nrm.toBr = t.toBr
  | .leaf _ _ => rfl
  | .fork a h l r => by
    unfold Tr.nrm Tr.toBr
    rw [nrm_toBr l, nrm_toBr r]
theorem nrm_alike : ∀ (t : Tr) (m : Nat), Rise m t → Sep t → ∀ i, i < t.at_ → bitN t.nrm.hash i = bitN t.hash i
  | .leaf _ _, _, _, _, _, _ => rfl
  | .fork a h l r, m, hr, hs, i, hi => by
    obtain ⟨r0, r1, r2, r3⟩ := hr
    obtain ⟨s0, s1, s2, s3, s4⟩ := hs
    have hi' : i < a := hi
    have hl := r2.le
    show bitN l.nrm.hash i = bitN h i
    rw [nrm_alike l (a + 1) r2 s3 i (by omega), s0 i hi']
theorem readV_back : ∀ (t : Tr) (m room : Nat), TrOK t → Rise m t → Sep t → t.lvN ≤ room → readV t.toBr m room = some (t.nrm, room - t.lvN)
  | .leaf k v, m, room, ho, hr, hs, hn => by
    have h1 : 1 ≤ room := hn
    show readV (.mk k v 256 []) m room = _
    rw [readV_leaf rfl, if_pos ⟨ho.1, ho.2, rfl, by omega⟩]
    rfl
  | .fork a h l r, m, room, ho, hr, hs, hn => by
    obtain ⟨r0, r1, r2, r3⟩ := hr
    obtain ⟨s0, s1, s2, s3, s4⟩ := hs
    have hn' : l.lvN + r.lvN ≤ room := hn
    have hll := r2.le
    have hrl := r3.le
    have e1 := readV_back l (a + 1) room ho.2.2.1 r2 s3 (by omega)
    have e2 := readV_back r (a + 1) (room - l.lvN) ho.2.2.2 r3 s4 (by omega)
    have al := nrm_alike l (a + 1) r2 s3
    have ar := nrm_alike r (a + 1) r3 s4
    have hfd := (fd_iff l.hash r.hash a r1).1 s1
    have hfd2 : fd l.nrm.hash r.nrm.hash = a := (fd_iff _ _ a r1).2 ⟨fun i hi => by rw [al i (by omega), ar i (by omega)]; exact hfd.1 i hi, by rw [al a (by omega), ar a (by omega)]; exact hfd.2⟩
    have hb : bitN l.nrm.hash a = 0 := by rw [al a (by omega)]; exact s2
    show readV (.mk ⟨#[]⟩ ⟨#[]⟩ (a : Int) [l.toBr, r.toBr]) m room = _
    rw [readV_fork ⟨by omega, by omega, rfl, rfl⟩]
    have ea : ((a : Int) + 1) = ((a + 1 : Nat) : Int) := by omega
    rw [ea, e1]
    dsimp only
    rw [e2]
    dsimp only
    rw [Int.toNat_natCast, if_pos ⟨hfd2, hb⟩]
    show some (Tr.fork a l.nrm.hash l.nrm r.nrm, room - l.lvN - r.lvN) = some (Tr.fork a l.nrm.hash l.nrm r.nrm, room - (l.lvN + r.lvN))
    rw [Nat.sub_sub]
theorem lvN_pos : ∀ t : Tr, 1 ≤ t.lvN
  | .leaf _ _ => Nat.le_refl 1
  | .fork a h l r => by have := lvN_pos l; show 1 ≤ l.lvN + r.lvN; omega
def nrmO : Option Tr → Option Tr := Option.map Tr.nrm
theorem mapV_back (o : Option Tr) (hok : OkO o) (hr : RiseO o) (hs : SepO o) (hn : lvO o ≤ 40) : mapV (brOf o) = some (nrmO o) := by
  cases o with
  | none => rfl
  | some t =>
    have h := readV_back t 0 40 hok hr hs.1 hn
    have he : emptyBr t.toBr = false := by
      cases t with
      | leaf k v => rw [Bool.eq_false_iff]; intro h; have := (empty_iff _ _ _ _).1 h; have := this.2.2.1; simp at this
      | fork a hh l r => rw [Bool.eq_false_iff]; intro h; have := (empty_iff _ _ _ _).1 h; have := this.2.2.2; simp at this
    have h' : readV t.toBr 0 40 = some (t.nrm, 40 - t.lvN) := h
    unfold mapV
    rw [if_neg (by show ¬ emptyBr t.toBr = true; rw [he]; decide)]
    show (match readV t.toBr 0 40 with | some (t, _) => some (some t) | none => none) = _
    rw [h']
    rfl
end Go.Proofs.YtkcpdjeemdlgcaaDoor.Sha
namespace Go.Proofs.YtkcpdjeemdlgcaaDoor.Sha
set_option linter.unusedVariables false
set_option maxRecDepth 1000000

def keysM : List ByteArray := [⟨#[97]⟩, ⟨#[97, 49]⟩, ⟨#[97, 50]⟩, ⟨#[98]⟩, ⟨#[98, 49]⟩, ⟨#[98, 50]⟩, ⟨#[99]⟩, ⟨#[99, 49]⟩, ⟨#[99, 50]⟩, ⟨#[100]⟩, ⟨#[100, 49]⟩, ⟨#[100, 50]⟩, ⟨#[101]⟩, ⟨#[101, 49]⟩, ⟨#[101, 50]⟩, ⟨#[102]⟩, ⟨#[102, 49]⟩, ⟨#[102, 50]⟩, ⟨#[97, 108, 112, 104, 97]⟩, ⟨#[97, 108, 112, 104, 97, 49]⟩, ⟨#[97, 108, 112, 104, 97, 50]⟩, ⟨#[98, 101, 116, 97]⟩, ⟨#[98, 101, 116, 97, 49]⟩, ⟨#[98, 101, 116, 97, 50]⟩]
def keysF : List ByteArray := [⟨#[107, 48]⟩, ⟨#[107, 49]⟩, ⟨#[107, 50]⟩, ⟨#[107, 51]⟩, ⟨#[107, 52]⟩, ⟨#[107, 53]⟩, ⟨#[107, 54]⟩, ⟨#[107, 55]⟩, ⟨#[107, 56]⟩, ⟨#[107, 57]⟩, ⟨#[107, 49, 48]⟩, ⟨#[107, 49, 49]⟩, ⟨#[107, 49, 50]⟩, ⟨#[107, 49, 51]⟩, ⟨#[107, 49, 52]⟩, ⟨#[107, 49, 53]⟩, ⟨#[107, 49, 54]⟩, ⟨#[107, 49, 55]⟩, ⟨#[107, 49, 56]⟩, ⟨#[107, 49, 57]⟩, ⟨#[107, 50, 48]⟩, ⟨#[107, 50, 49]⟩, ⟨#[107, 50, 50]⟩, ⟨#[107, 50, 51]⟩, ⟨#[107, 50, 52]⟩, ⟨#[107, 50, 53]⟩, ⟨#[107, 50, 54]⟩, ⟨#[107, 50, 55]⟩, ⟨#[107, 50, 56]⟩, ⟨#[107, 50, 57]⟩, ⟨#[107, 51, 48]⟩, ⟨#[107, 51, 49]⟩, ⟨#[107, 51, 50]⟩, ⟨#[107, 51, 51]⟩, ⟨#[107, 51, 52]⟩, ⟨#[107, 51, 53]⟩, ⟨#[107, 51, 54]⟩, ⟨#[107, 51, 55]⟩, ⟨#[107, 51, 56]⟩, ⟨#[107, 51, 57]⟩]
def keysA : List ByteArray := keysM ++ keysF
def hashesA : List (List UInt8) := [[202, 151, 129, 18, 202, 27, 189, 202, 250, 194, 49, 179, 154, 35, 220, 77, 167, 134, 239, 248, 20, 124, 78, 114, 185, 128, 119, 133, 175, 238, 72, 187],
  [245, 95, 241, 111, 102, 244, 51, 96, 38, 107, 149, 219, 111, 143, 236, 1, 215, 96, 49, 5, 67, 6, 174, 74, 75, 56, 5, 152, 246, 207, 209, 20],
  [44, 58, 66, 73, 215, 112, 112, 5, 134, 73, 219, 216, 34, 220, 175, 121, 87, 88, 111, 206, 66, 140, 251, 44, 168, 139, 148, 116, 30, 218, 139, 7],
  [62, 35, 232, 22, 0, 57, 89, 74, 51, 137, 79, 101, 100, 225, 177, 52, 139, 189, 122, 0, 136, 212, 44, 74, 203, 115, 238, 174, 213, 156, 0, 157],
  [125, 201, 111, 119, 108, 132, 35, 229, 122, 39, 133, 72, 154, 63, 156, 67, 251, 110, 117, 104, 118, 214, 173, 154, 156, 172, 74, 164, 231, 46, 193, 147],
  [72, 20, 217, 32, 147, 172, 138, 15, 74, 33, 99, 171, 135, 222, 229, 9, 186, 48, 106, 88, 245, 136, 139, 224, 237, 203, 47, 205, 7, 18, 2, 139],
  [46, 125, 44, 3, 169, 80, 122, 226, 101, 236, 245, 181, 53, 104, 133, 165, 51, 147, 162, 2, 157, 36, 19, 148, 153, 114, 101, 161, 162, 90, 239, 198],
  [208, 246, 49, 202, 29, 219, 168, 219, 59, 207, 203, 158, 5, 124, 220, 152, 208, 55, 159, 27, 238, 0, 231, 90, 84, 81, 71, 162, 125, 173, 217, 130],
  [156, 10, 190, 81, 198, 230, 101, 93, 129, 222, 45, 4, 77, 79, 177, 148, 147, 31, 5, 140, 4, 38, 198, 124, 114, 133, 216, 245, 101, 126, 214, 74],
  [24, 172, 62, 115, 67, 240, 22, 137, 12, 81, 14, 147, 249, 53, 38, 17, 105, 217, 227, 245, 101, 67, 100, 41, 131, 15, 175, 9, 52, 244, 248, 228],
  [139, 83, 99, 159, 21, 44, 143, 198, 239, 48, 128, 47, 222, 70, 43, 160, 190, 156, 240, 133, 247, 88, 13, 198, 158, 253, 114, 224, 2, 171, 187, 53],
  [231, 136, 16, 62, 225, 83, 24, 252, 210, 175, 155, 115, 180, 235, 187, 51, 169, 3, 176, 32, 222, 123, 48, 125, 113, 245, 254, 208, 244, 51, 229, 72],
  [63, 121, 187, 123, 67, 91, 5, 50, 22, 81, 218, 239, 211, 116, 205, 198, 129, 220, 6, 250, 166, 94, 55, 78, 56, 51, 123, 136, 202, 4, 109, 234],
  [139, 92, 196, 223, 126, 236, 125, 50, 167, 129, 78, 202, 74, 240, 71, 174, 51, 178, 213, 35, 66, 102, 119, 21, 104, 46, 25, 194, 91, 11, 159, 170],
  [172, 15, 9, 192, 248, 191, 94, 122, 75, 6, 61, 134, 50, 85, 241, 109, 140, 233, 171, 230, 0, 226, 136, 217, 52, 207, 49, 59, 203, 255, 99, 235],
  [37, 47, 16, 200, 54, 16, 235, 202, 26, 5, 156, 11, 174, 130, 85, 235, 162, 249, 91, 228, 209, 215, 188, 250, 137, 215, 36, 138, 130, 217, 241, 17],
  [63, 82, 76, 220, 7, 161, 29, 124, 98, 32, 189, 176, 73, 254, 141, 212, 27, 39, 72, 60, 150, 204, 89, 181, 129, 224, 34, 213, 71, 41, 13, 105],
  [228, 171, 78, 59, 20, 147, 213, 169, 151, 180, 229, 28, 222, 251, 170, 16, 87, 14, 243, 234, 148, 50, 189, 114, 231, 182, 168, 150, 84, 206, 183, 246],
  [142, 211, 246, 173, 104, 91, 149, 158, 173, 112, 34, 81, 142, 26, 247, 108, 216, 22, 248, 232, 236, 124, 205, 218, 30, 212, 1, 142, 143, 34, 35, 248],
  [178, 73, 151, 161, 159, 126, 168, 194, 147, 18, 75, 113, 30, 121, 0, 216, 154, 60, 151, 179, 216, 227, 244, 196, 46, 119, 149, 203, 189, 0, 185, 99],
  [11, 135, 208, 6, 73, 231, 220, 233, 85, 29, 166, 62, 89, 93, 151, 97, 20, 11, 221, 222, 224, 172, 10, 108, 28, 60, 152, 244, 58, 168, 10, 154],
  [244, 78, 100, 231, 95, 57, 72, 233, 247, 63, 141, 250, 148, 114, 28, 76, 232, 203, 180, 242, 101, 196, 121, 12, 112, 43, 45, 65, 207, 191, 39, 83],
  [186, 248, 132, 235, 108, 102, 83, 200, 174, 3, 9, 64, 99, 204, 167, 168, 173, 250, 22, 243, 138, 195, 11, 16, 245, 94, 161, 141, 190, 246, 113, 234],
  [136, 84, 167, 129, 41, 185, 27, 205, 250, 61, 50, 23, 164, 210, 73, 39, 75, 37, 209, 191, 139, 183, 242, 134, 61, 128, 197, 2, 116, 45, 39, 27],
  [209, 165, 172, 154, 1, 95, 172, 46, 247, 179, 65, 103, 54, 53, 81, 42, 21, 17, 244, 31, 227, 125, 17, 27, 38, 127, 3, 158, 236, 93, 79, 88],
  [106, 185, 241, 235, 143, 125, 51, 136, 244, 249, 213, 134, 246, 110, 153, 253, 84, 8, 13, 242, 196, 70, 240, 229, 134, 104, 176, 156, 8, 161, 109, 208],
  [1, 95, 126, 107, 197, 174, 175, 72, 55, 36, 8, 158, 146, 82, 204, 19, 181, 9, 81, 166, 182, 148, 18, 82, 39, 101, 207, 244, 215, 128, 48, 110],
  [47, 80, 82, 201, 253, 21, 177, 154, 24, 197, 132, 208, 19, 99, 86, 129, 152, 97, 63, 12, 52, 232, 68, 9, 239, 121, 56, 112, 154, 21, 158, 194],
  [148, 9, 29, 214, 74, 33, 255, 233, 66, 20, 188, 109, 23, 222, 235, 67, 135, 58, 92, 242, 240, 167, 27, 75, 92, 170, 154, 92, 129, 182, 150, 125],
  [136, 219, 246, 18, 151, 44, 89, 74, 44, 47, 109, 222, 73, 62, 241, 196, 205, 39, 173, 186, 140, 54, 230, 235, 208, 11, 137, 255, 20, 58, 186, 97],
  [29, 146, 173, 75, 105, 135, 250, 3, 71, 204, 93, 47, 182, 207, 158, 71, 200, 63, 79, 108, 174, 179, 181, 239, 111, 98, 151, 48, 82, 137, 33, 195],
  [251, 132, 140, 153, 185, 164, 62, 199, 134, 106, 35, 234, 0, 12, 25, 57, 161, 104, 245, 255, 23, 49, 74, 11, 136, 199, 190, 113, 29, 126, 247, 208],
  [90, 61, 248, 157, 167, 191, 35, 215, 30, 198, 63, 17, 29, 145, 113, 195, 240, 80, 71, 56, 10, 23, 129, 47, 32, 36, 142, 99, 207, 222, 212, 251],
  [195, 200, 28, 43, 154, 154, 233, 227, 88, 214, 143, 196, 125, 188, 133, 150, 241, 155, 66, 0, 17, 231, 28, 101, 125, 22, 22, 241, 79, 183, 121, 23],
  [74, 228, 63, 216, 53, 132, 132, 166, 91, 3, 207, 243, 179, 240, 235, 229, 71, 141, 234, 72, 57, 141, 36, 98, 143, 65, 66, 149, 24, 228, 188, 224],
  [19, 135, 109, 6, 39, 164, 143, 25, 142, 93, 94, 235, 160, 68, 234, 174, 206, 117, 69, 161, 18, 216, 114, 239, 31, 199, 175, 118, 142, 77, 167, 127],
  [88, 224, 143, 105, 186, 131, 134, 226, 219, 135, 91, 26, 45, 146, 115, 74, 76, 156, 79, 98, 228, 73, 98, 253, 41, 229, 154, 84, 111, 173, 179, 102],
  [103, 116, 233, 123, 50, 212, 126, 78, 132, 128, 25, 199, 51, 61, 10, 236, 251, 30, 180, 111, 51, 89, 23, 243, 77, 241, 229, 173, 156, 1, 22, 249],
  [58, 140, 254, 129, 213, 3, 2, 176, 49, 205, 227, 6, 3, 196, 187, 251, 226, 175, 90, 50, 255, 251, 128, 160, 52, 244, 169, 218, 157, 49, 81, 83],
  [91, 212, 202, 73, 117, 48, 180, 179, 73, 14, 53, 15, 53, 144, 187, 169, 254, 33, 97, 40, 179, 90, 87, 143, 69, 159, 201, 171, 135, 69, 174, 136],
  [141, 104, 198, 85, 103, 124, 92, 114, 216, 17, 137, 73, 232, 153, 117, 113, 145, 89, 47, 50, 82, 65, 46, 22, 220, 100, 250, 126, 68, 255, 160, 149],
  [108, 71, 193, 222, 102, 231, 229, 235, 215, 177, 254, 7, 70, 234, 26, 54, 11, 207, 4, 57, 41, 130, 159, 177, 140, 189, 122, 7, 194, 93, 118, 57],
  [54, 46, 183, 248, 149, 78, 116, 227, 167, 184, 35, 179, 115, 89, 121, 189, 154, 71, 92, 236, 203, 207, 148, 113, 183, 115, 98, 102, 196, 136, 27, 212],
  [31, 241, 118, 80, 83, 44, 48, 52, 255, 99, 148, 2, 98, 124, 222, 148, 41, 97, 140, 26, 220, 51, 122, 103, 142, 245, 243, 166, 73, 113, 77, 122],
  [203, 103, 144, 58, 98, 211, 212, 214, 78, 92, 10, 59, 71, 126, 82, 35, 128, 81, 207, 157, 51, 114, 173, 2, 125, 206, 177, 53, 67, 255, 21, 115],
  [215, 31, 35, 138, 107, 116, 227, 177, 115, 2, 245, 113, 232, 40, 85, 122, 146, 121, 29, 195, 132, 112, 187, 57, 156, 194, 198, 117, 209, 115, 2, 23],
  [67, 43, 46, 123, 244, 88, 62, 119, 108, 58, 248, 62, 25, 82, 171, 167, 239, 61, 62, 105, 86, 10, 91, 80, 32, 136, 57, 144, 174, 170, 35, 201],
  [246, 143, 49, 137, 231, 57, 77, 139, 57, 209, 184, 189, 176, 53, 34, 156, 170, 198, 126, 195, 225, 215, 31, 190, 76, 76, 169, 160, 178, 223, 242, 251],
  [82, 11, 50, 171, 199, 45, 249, 251, 29, 228, 247, 182, 136, 246, 120, 194, 172, 116, 73, 200, 222, 102, 60, 53, 32, 177, 22, 143, 139, 109, 99, 237],
  [100, 13, 163, 9, 168, 54, 58, 2, 229, 219, 31, 189, 58, 96, 103, 240, 49, 195, 226, 90, 54, 95, 98, 252, 38, 0, 38, 168, 104, 161, 115, 179],
  [172, 246, 187, 40, 76, 106, 155, 61, 6, 64, 111, 153, 140, 83, 221, 8, 5, 130, 40, 87, 194, 109, 68, 122, 132, 93, 142, 228, 173, 7, 30, 173],
  [195, 6, 48, 200, 249, 62, 122, 87, 101, 248, 65, 43, 40, 56, 240, 203, 67, 157, 205, 210, 6, 223, 241, 82, 5, 194, 88, 194, 24, 224, 30, 244],
  [156, 26, 17, 239, 225, 4, 128, 162, 15, 6, 26, 62, 65, 57, 240, 74, 241, 39, 18, 58, 169, 98, 71, 46, 167, 59, 56, 236, 158, 134, 174, 116],
  [151, 2, 34, 70, 109, 126, 195, 134, 254, 143, 207, 128, 140, 110, 44, 88, 71, 3, 233, 177, 221, 223, 223, 151, 12, 139, 60, 64, 121, 212, 136, 218],
  [4, 212, 244, 52, 133, 92, 15, 160, 181, 73, 213, 146, 66, 208, 60, 149, 96, 163, 9, 66, 4, 150, 229, 30, 136, 17, 176, 202, 186, 208, 201, 177],
  [43, 218, 168, 161, 151, 44, 12, 67, 29, 13, 198, 135, 173, 241, 102, 36, 97, 26, 204, 52, 37, 185, 183, 236, 118, 206, 240, 50, 226, 151, 176, 180],
  [77, 77, 224, 165, 199, 39, 19, 239, 95, 160, 164, 136, 206, 61, 63, 73, 126, 136, 19, 230, 17, 220, 43, 101, 62, 218, 251, 213, 29, 208, 1, 52],
  [252, 168, 56, 207, 225, 115, 142, 72, 140, 166, 50, 87, 130, 100, 78, 79, 58, 130, 55, 95, 61, 25, 29, 87, 151, 3, 113, 222, 193, 58, 122, 50],
  [32, 125, 180, 69, 129, 167, 93, 214, 121, 225, 176, 29, 118, 55, 56, 18, 172, 32, 99, 38, 122, 38, 80, 174, 162, 61, 190, 133, 172, 88, 179, 100],
  [221, 80, 9, 205, 46, 113, 121, 0, 192, 116, 48, 156, 213, 96, 215, 9, 223, 143, 200, 43, 22, 101, 205, 225, 96, 211, 2, 63, 39, 89, 227, 82],
  [184, 161, 124, 73, 105, 19, 158, 151, 19, 171, 150, 243, 75, 151, 93, 27, 41, 119, 95, 25, 150, 118, 206, 54, 206, 230, 170, 65, 252, 161, 135, 142],
  [237, 30, 211, 43, 114, 54, 125, 107, 217, 158, 153, 231, 135, 1, 224, 108, 44, 21, 1, 114, 34, 214, 218, 185, 58, 162, 42, 69, 187, 29, 152, 211],
  [188, 236, 159, 59, 45, 187, 213, 230, 29, 150, 7, 89, 58, 153, 12, 136, 99, 144, 8, 21, 7, 246, 77, 166, 22, 87, 88, 139, 22, 242, 28, 199],
  [241, 158, 34, 84, 155, 130, 165, 151, 252, 1, 238, 65, 156, 138, 107, 44, 248, 11, 117, 60, 190, 199, 227, 89, 29, 20, 159, 30, 130, 220, 194, 226]]
set_option maxHeartbeats 4000000 in
theorem kh_keys : keysA.map (fun k => (kh k).data.toList) = hashesA := by decide +kernel
theorem hashes_nodup : hashesA.Nodup := by decide +kernel
theorem kh_inj {x y : ByteArray} (hx : x ∈ keysA) (hy : y ∈ keysA) (h : kh x = kh y) : x = y := by
  obtain ⟨i, hi, rfl⟩ := List.getElem_of_mem hx
  obtain ⟨j, hj, rfl⟩ := List.getElem_of_mem hy
  have nd := hashes_nodup
  rw [← kh_keys] at nd
  have e : (keysA.map (fun k => (kh k).data.toList))[i]'(by simpa using hi) = (keysA.map (fun k => (kh k).data.toList))[j]'(by simpa using hj) := by
    rw [List.getElem_map, List.getElem_map, h]
  have hp := List.pairwise_iff_getElem.1 nd
  rcases Nat.lt_trichotomy i j with h1 | h1 | h1
  · exact absurd e (hp i j _ _ h1)
  · subst h1; rfl
  · exact absurd e.symm (hp j i _ _ h1)
end Go.Proofs.YtkcpdjeemdlgcaaDoor.Sha
namespace Go.Proofs.YtkcpdjeemdlgcaaDoor.Sha
open Go.ChangeShapes Go.WideShapes Go.ChangeAt Go.RowKit
set_option linter.unusedVariables false

theorem bytes_nums1 (x : Nat) (h : x < 256) : bytesI (strOfNums [(x : Int)]) = [(x : Int)] := by
  unfold bytesI strOfNums
  simp
  omega
theorem conv_oneB (w : World) (x : Int) : (convert 22 9 (.slice (some ⟨w.heap.size, 0, none⟩) 1 1)).run Tryd.prog (w.alloc (.cells #[.int .u8 x] 5)) = .ok (.string (strOfNums [x])) (w.alloc (.cells #[.int .u8 x] 5)) :=
  run_convert_bytes_arg (P := Tryd.prog) _ 22 5 Tryd.underlying22 Tryd.underlying5 w.heap.size 0 1 1 [x] rfl (fun i hi => by
    rw [World.cell?_alloc_at _ _ _ _ rfl]
    match i, hi with
    | 0, _ => rfl) 9 Tryd.underlying9
set_option maxRecDepth 100000 in
theorem oneByte_any (n : Nat) (w : World) (hn : n < 256) :
    Calls Tryd.prog 99 #[.int .i64 n] w fun e w' => e = .returned (.string (strOfNums [(n : Int)])) ∧ Below w.heap.size w w' := by
  have hq : IntKind.u8.wrap (n : Int) = (n : Int) := wraps_u8 _ (by omega) (by omega)
  have hcv := conv_oneB w (n : Int)
  have B0 := hide ((Below.refl w.heap.size w).alloc (Nat.le_refl _) (.cells #[.int .u8 n] 5))
  go_enter Tryd.func99, Tryd.ntmps99
  go_wp2_with fail
  go_ret
  exact ⟨rfl, unhide B0⟩
end Go.Proofs.YtkcpdjeemdlgcaaDoor.Sha
namespace Go.Proofs.YtkcpdjeemdlgcaaDoor.Sha
open Go.ChangeShapes Go.WideShapes Go.ChangeAt Go.RowKit
set_option linter.unusedVariables false
set_option linter.unusedSimpArgs false

set_option maxRecDepth 100000 in
set_option maxHeartbeats 1000000 in
theorem emptyRoot_any (w : World) (ht : Tab w) : Calls Tryd.prog 70 #[] w fun e w' => e = .returned (.string (hashV [2])) ∧ Below w.heap.size w w' := by
  have B0 := hide ((Below.refl w.heap.size w).alloc (Nat.le_refl _) (.cells #[.int .u8 2] 5 (1, 1 + 1)))
  have hcv := Lib.run_convert_bytes_const (P := Tryd.prog) w 22 5 #[.int .u8 2] 1 1 Tryd.underlying22 Tryd.underlying5
  have hB : Bytes (w.alloc (.cells #[.int .u8 2] 5 (1, 1 + 1))) (.slice (some ⟨w.heap.size, 0, none⟩) 1 1) [2] := by
    refine ⟨_, _, rfl, by unfold maxLen; simp, .inr ⟨w.heap.size, 0, rfl, by simp, fun i hi => ?_⟩, fun i => ?_⟩
    · obtain rfl : i = 0 := by simpa using hi
      have hb : (w.alloc (.cells #[.int .u8 2] 5 (1, 1 + 1))).heap[w.heap.size]? = some (.cells #[.int .u8 2] 5 (1, 1 + 1)) := heap_alloc_new w _
      rw [Nat.zero_add, cell_of_row _ _ _ _ _ _ hb]
      rfl
    · match i with
      | 0 => simp
      | i + 1 => simp
  have HH := hide (implHash_any _ _ _ hB (ht.below (unhide B0)).2 (ht.below (unhide B0)).1)
  clear hB ht
  go_enter Tryd.func70, Tryd.ntmps70
  go_wp2_with fail
  refine (unhide HH).mono ?_
  rintro e w1 ⟨rfl, hb1⟩
  have K := hide ((unhide B0).trans (hb1.mono (unhide B0).size))
  clear hb1
  go_wp2_with fail
  go_ret
  exact ⟨rfl, unhide K⟩
set_option maxRecDepth 100000 in
set_option maxHeartbeats 1000000 in
theorem leafRoot_any (k v : ByteArray) (w : World) (hk : k.size ≤ 24) (hv : v.size ≤ 60) (ht : Tab w) :
    Calls Tryd.prog 71 #[.string k, .string v] w fun e w' => e = .returned (.string (lfR k v)) ∧ Below w.heap.size w w' := by
  have HOB := hide (oneByte_any k.size w (by omega))
  have hs1 : (strOfNums [(k.size : Int)]).size = 1 := strOfNums_size _
  have hsz : (((⟨#[0]⟩ : ByteArray) ++ strOfNums [(k.size : Int)]) ++ k ++ v).size = 2 + k.size + v.size := by
    rw [ByteArray.size_append, ByteArray.size_append, ByteArray.size_append, hs1]; rfl
  have HE : Hid (bytesI (((⟨#[0]⟩ : ByteArray) ++ strOfNums [(k.size : Int)]) ++ k ++ v) = 0 :: (k.size : Int) :: (bytesI k ++ bytesI v)) := hide (by
    rw [bytesI_append, bytesI_append, bytesI_append, bytes_nums1 _ (by omega)]
    rfl)
  have HT := hide ht
  have HST := hide (fun wx => str_bytesB (((⟨#[0]⟩ : ByteArray) ++ strOfNums [(k.size : Int)]) ++ k ++ v) wx (by rw [hsz]; unfold maxLen; omega))
  have HV : Hid (lfR k v = hashV (0 :: (k.size : Int) :: (bytesI k ++ bytesI v))) := rfl
  clear ht
  generalize strOfNums [(k.size : Int)] = s1 at *
  go_enter Tryd.func71, Tryd.ntmps71
  go_wp2_with fail
  refine (unhide HOB).mono ?_
  rintro e w1 ⟨rfl, hb1⟩
  obtain ⟨cap, w2, hcv, hB, hb2⟩ := unhide HST w1
  rw [unhide HE, hsz] at hB
  rw [hsz] at hcv
  have B1 := hide hb1
  have B2 := hide (hb1.trans (hb2.mono hb1.size))
  have HH := hide (implHash_any _ _ w2 hB ((unhide HT).below (unhide B2)).2 ((unhide HT).below (unhide B2)).1)
  clear hb1 hb2 hB HST hsz
  go_wp2_with fail
  refine (unhide HH).mono ?_
  rintro e w3 ⟨rfl, hb3⟩
  have K := hide ((unhide B2).trans (hb3.mono (unhide B2).size))
  clear hb3
  rw [← unhide HV]
  go_wp2_with fail
  go_ret
  exact ⟨rfl, unhide K⟩
set_option maxRecDepth 100000 in
set_option maxHeartbeats 2000000 in
theorem forkRoot_any (a : Nat) (x y : ByteArray) (w : World) (ha : a < 256) (hx : x.size = 32) (hy : y.size = 32) (ht : Tab w) :
    Calls Tryd.prog 72 #[.int .i64 a, .agg #[.string x, .string y]] w fun e w' => e = .returned (.string (fkR a x y)) ∧ Below w.heap.size w w' := by
  have B0 := hide ((Below.refl w.heap.size w).alloc (Nat.le_refl _) (.cells #[.string x, .string y] 101))
  have X0 := hide (Blk.new w #[.string x, .string y] 101 w.heap.size rfl)
  have HOB := hide (fun wx => oneByte_any a wx ha)
  have hs1 : (strOfNums [(a : Int)]).size = 1 := strOfNums_size _
  have hsz : (((⟨#[1]⟩ : ByteArray) ++ strOfNums [(a : Int)]) ++ x ++ y).size = 66 := by
    rw [ByteArray.size_append, ByteArray.size_append, ByteArray.size_append, hs1, hx, hy]; rfl
  have HE : Hid (bytesI (((⟨#[1]⟩ : ByteArray) ++ strOfNums [(a : Int)]) ++ x ++ y) = 1 :: (a : Int) :: (bytesI x ++ bytesI y)) := hide (by
    rw [bytesI_append, bytesI_append, bytesI_append, bytes_nums1 _ ha]
    rfl)
  have HT := hide ht
  have HST := hide (fun wx => str_bytesB (((⟨#[1]⟩ : ByteArray) ++ strOfNums [(a : Int)]) ++ x ++ y) wx (by rw [hsz]; unfold maxLen; omega))
  have HV : Hid (fkR a x y = hashV (1 :: (a : Int) :: (bytesI x ++ bytesI y))) := rfl
  clear ht
  generalize strOfNums [(a : Int)] = s1 at *
  go_enter Tryd.func72, Tryd.ntmps72
  go_wp2_with fail
  generalize w.alloc (.cells #[.string x, .string y] 101) = w0 at *
  have x0 := (unhide X0).cell 0 rfl
  have x1 := (unhide X0).cell 1 rfl
  have hX0 := (unhide X0).1
  have hXw := (unhide B0).size
  go_region_held_law (fun wx => wx.cell? ⟨w.heap.size, 0, none⟩ = some (.string x) ∧ wx.cell? ⟨w.heap.size, 1, none⟩ = some (.string y))
    (first | go_keep | exact ⟨c10, c11⟩ | exact ⟨c20, c21⟩ | exact ⟨c30, c31⟩)
    (first
      | (go_at_call 41; refine (unhide HH).mono ?_; rintro e w3 ⟨rfl, hb3⟩; have c30 := (hb3.cell (p := ⟨w.heap.size, 0, none⟩) hX2).trans c20; have c31 := (hb3.cell (p := ⟨w.heap.size, 1, none⟩) hX2).trans c21)
      | (go_at_call 99; refine (unhide HOB _).mono ?_; rintro e w1 ⟨rfl, hb1⟩; obtain ⟨cap, w2, hcv, hB, hb2⟩ := unhide HST w1; rw [unhide HE, hsz] at hB; rw [hsz] at hcv; have c10 := (hb1.cell (p := ⟨w.heap.size, 0, none⟩) hX0).trans x0; have c11 := (hb1.cell (p := ⟨w.heap.size, 1, none⟩) hX0).trans x1; have hX1 : w.heap.size < w1.heap.size := Nat.lt_of_lt_of_le hX0 hb1.size; have c20 := (hb2.cell (p := ⟨w.heap.size, 0, none⟩) hX1).trans c10; have c21 := (hb2.cell (p := ⟨w.heap.size, 1, none⟩) hX1).trans c11; have hX2 : w.heap.size < w2.heap.size := Nat.lt_of_lt_of_le hX1 hb2.size; have B2 := hide ((below_drewN (unhide B0) 1).trans ((hb1.mono hXw).trans (hb2.mono (Nat.le_of_lt hX1)))); have HH := hide (implHash_any _ _ w2 hB ((unhide HT).below (unhide B2)).2 ((unhide HT).below (unhide B2)).1)))
  have K := hide ((unhide B2).trans (hb3.mono (unhide B2).size))
  rw [← unhide HV]
  clear hb3 hb2 hb1 c10 c11 c20 c21 c30 c31 hcv hB HH
  go_wp2_with fail
  go_ret
  exact ⟨rfl, unhide K⟩
set_option maxRecDepth 100000 in
set_option maxHeartbeats 4000000 in
theorem root_any {w0 : World} {S : Nat → Prop} {p : Nat} {t : Tr} (h : Nd w0 S p t) : TrOK t → ∀ w, Below w0.heap.size w0 w → Tab w →
    Calls Tryd.prog 35 #[.pointer (some ⟨p, 0, none⟩)] w fun e w' => e = .returned (.string (trR t)) ∧ Below w.heap.size w w' := by
  induction h with
  | leaf S p k v hS hb =>
    intro hok w hb0 ht
    have X := hide (hb.below hb0)
    have hk := (okK_iff.1 hok.1).2
    have hv : v.size ≤ 60 := hok.2
    have x0 := (unhide X).cell 0 rfl
    have x1 := (unhide X).cell 1 rfl
    have x3 := (unhide X).cell 3 rfl
    have hX := (unhide X).1
    have HL := hide (leafRoot_any k v w.drew hk hv (ht.below (below_drewN (Below.refl _ w) 1)))
    have HV : Hid (trR (.leaf k v) = lfR k v) := rfl
    clear hb hb0 ht hok
    go_enter Tryd.func35, Tryd.ntmps35
    go_wp2_with fail
    go_region_held3 (fun wx => wx.cell? ⟨p, 0, none⟩ = some (.string k) ∧ wx.cell? ⟨p, 1, none⟩ = some (.string v)) (first | go_keep | exact ⟨(hb2.cell (p := ⟨p, 0, none⟩) hX).trans x0, (hb2.cell (p := ⟨p, 1, none⟩) hX).trans x1⟩) ((go_at_call 71; refine (unhide HL).mono ?_; rintro e w2 ⟨rfl, hb2⟩))
    have K := hide ((below_drewN (Below.refl w.heap.size w) 1).trans hb2)
    rw [← unhide HV]
    clear hb2 x0 x1 x3
    go_wp2_with fail
    go_ret
    exact ⟨rfl, unhide K⟩
  | fork S Sl Sr p a hh l r pl pr hS h1 h2 h3 hb hl hr ihl ihr =>
    intro hok w hb0 ht
    obtain ⟨ha, _, okl, okr⟩ := hok
    have X := hide (hb.below hb0)
    have x3 := (unhide X).cell 3 rfl
    have x4 := (unhide X).cell 4 rfl
    have x5 := (unhide X).cell 5 rfl
    have hX := (unhide X).1
    have HT := hide ht
    have HL := hide (fun wx (hx : Below w.heap.size w wx) => ihl okl wx (hb0.trans (hx.mono hb0.size)) (ht.below hx))
    have HR := hide (fun wx (hx : Below w.heap.size w wx) => ihr okr wx (hb0.trans (hx.mono hb0.size)) (ht.below hx))
    have zl := trR_size l okl
    have zr := trR_size r okr
    have HV : Hid (trR (.fork a hh l r) = fkR a (trR l) (trR r)) := rfl
    have HF := hide (fun wx (hx : Below w.heap.size w wx) => forkRoot_any a (trR l) (trR r) wx ha zl zr (ht.below hx))
    have hab : ((a : Int) == 256) = false := by rw [beq_eq_false_iff_ne]; omega
    clear hb hb0 ht ihl ihr hl hr h1 h2 h3 zl zr
    generalize trR l = rl at *
    generalize trR r = rr at *
    go_enter Tryd.func35, Tryd.ntmps35
    go_wp2_with fail
    go_region_held3 (fun wx => wx.cell? ⟨p, 3, none⟩ = some (.int .i64 a) ∧ wx.cell? ⟨p, 4, none⟩ = some (.pointer (some ⟨pl, 0, none⟩)) ∧ wx.cell? ⟨p, 5, none⟩ = some (.pointer (some ⟨pr, 0, none⟩)))
      (first | go_keep | exact ⟨(hb3.cell (p := ⟨p, 3, none⟩) hX).trans x3, (hb3.cell (p := ⟨p, 4, none⟩) hX).trans x4, (hb3.cell (p := ⟨p, 5, none⟩) hX).trans x5⟩ | exact ⟨(hb2.cell (p := ⟨p, 3, none⟩) hX).trans x3, (hb2.cell (p := ⟨p, 4, none⟩) hX).trans x4, (hb2.cell (p := ⟨p, 5, none⟩) hX).trans x5⟩ | exact ⟨(hb1.cell (p := ⟨p, 3, none⟩) hX).trans x3, (hb1.cell (p := ⟨p, 4, none⟩) hX).trans x4, (hb1.cell (p := ⟨p, 5, none⟩) hX).trans x5⟩)
      (first
        | (go_at_call 72; refine (unhide HF _ hb2).mono ?_; rintro e w3 ⟨rfl, hb3'⟩; have hb3 := hb2.trans (hb3'.mono hb2.size))
        | (go_at_call 35; refine (unhide HR _ hb1).mono ?_; rintro e w2 ⟨rfl, hb2'⟩; have hb2 := hb1.trans (hb2'.mono hb1.size))
        | (go_at_call 35; refine (unhide HL _ ((Below.refl _ w).drew)).mono ?_; rintro e w1 ⟨rfl, hb1'⟩; have hb1 := ((Below.refl _ w).drew).trans hb1'))
    have K := hide hb3
    clear hb1' hb1 hb2' hb2 hb3' hb3 x3 x4 x5
    rw [← unhide HV]
    go_wp2_with fail
    go_ret
    exact ⟨rfl, unhide K⟩
set_option maxRecDepth 100000 in
theorem rootO_any {w : World} {S : Nat → Prop} {pv : Option Addr} {o : Option Tr} (h : PtrM w S pv o) (hok : OkO o) (ht : Tab w) :
    Calls Tryd.prog 35 #[.pointer pv] w fun e w' => e = .returned (.string (rootR o)) ∧ Below w.heap.size w w' := by
  cases o with
  | none =>
    obtain rfl : pv = none := h
    have HE := hide (emptyRoot_any w ht)
    have HV : Hid (rootR none = hashV [2]) := rfl
    clear ht
    go_enter Tryd.func35, Tryd.ntmps35
    go_wp2_with fail
    refine (unhide HE).mono ?_
    rintro e w1 ⟨rfl, hb1⟩
    have K := hide hb1
    clear hb1
    rw [← unhide HV]
    go_wp2_with fail
    go_ret
    exact ⟨rfl, unhide K⟩
  | some t =>
    obtain ⟨p, rfl, hn⟩ := h
    exact root_any hn hok w (Below.refl _ _) ht
/-- What MapRoot answers. -/
def mrOut (b : Br) : Value := match mapV b with
  | none => .tuple #[.string ⟨#[]⟩, .int .i64 1]
  | some o => .tuple #[.string (rootR o), .int .i64 0]
set_option maxRecDepth 100000 in
set_option maxHeartbeats 1000000 in
theorem implMapRoot_any (k v : ByteArray) (a : Int) (ks : List Br) (S : Nat → Prop) (kv : Value) (w : World) (hB : Brs S w kv ks) (hk : k.size ≤ maxLen) (hv : v.size ≤ maxLen) (ht : Tab w) :
    Calls Tryd.prog 9 #[.agg #[.string k, .string v, .int .i64 a, kv]] w fun e w' => e = .returned (mrOut (.mk k v a ks)) ∧ Below w.heap.size w w' := by
  obtain ⟨sa, cap, rfl, hcap, hcm⟩ := hB.shape
  have B0 := hide ((Below.refl w.heap.size w).alloc (Nat.le_refl _) (.cells #[.string k, .string v, .int .i64 a, .slice sa ks.length cap] 27))
  have HR := hide (readMap_any k v a ks S _ _ (hB.blw (unhide B0)) hk hv (ht.below (unhide B0)))
  have HT := hide ht
  have HM := hide (mapB_V (.mk k v a ks))
  have HO : Hid (mrOut (.mk k v a ks) = match mapV (.mk k v a ks) with | none => .tuple #[.string ⟨#[]⟩, .int .i64 1] | some o => .tuple #[.string (rootR o), .int .i64 0]) := rfl
  have HBR := hide (fun o => mapV_br (b := .mk k v a ks) (o := o))
  clear hB ht
  go_enter Tryd.func9, Tryd.ntmps9
  go_wp2_with fail
  refine (unhide HR).mono ?_
  rintro e w2 ⟨pv, rfl, hb, hpm⟩
  have B2 := hide ((unhide B0).trans (hb.mono (unhide B0).size))
  have HP := hide hpm
  clear hb HR hpm
  rw [unhide HM]
  cases hmv : mapV (.mk k v a ks) with
  | none =>
    rw [hmv] at HO
    have HMV := hide hmv
    clear hmv HBR
    rw [show (none : Option (Option Tr)).isSome = false from rfl]
    go_wp2_with fail
    go_ret2
    exact ⟨by rw [unhide HO]; rfl, unhide B2⟩
  | some o =>
    rw [hmv] at HO HP
    have HOK := hide (unhide HBR o hmv).2
    have HRO := hide (rootO_any (unhide HP) (unhide HOK) ((unhide HT).below (unhide B2)))
    clear hmv HBR
    rw [show (some o).isSome = true from rfl]
    go_wp2_with fail
    refine (unhide HRO).mono ?_
    rintro e w3 ⟨rfl, hb3⟩
    have B3 := hide ((unhide B2).trans (hb3.mono (unhide B2).size))
    clear hb3
    go_wp2_with fail
    go_ret2
    exact ⟨by rw [unhide HO]; rfl, unhide B3⟩
end Go.Proofs.YtkcpdjeemdlgcaaDoor.Sha
namespace Go.Proofs.YtkcpdjeemdlgcaaDoor.Sha
open Go.ChangeShapes Go.WideShapes Go.ChangeAt Go.RowKit
set_option linter.unusedVariables false
set_option linter.unusedSimpArgs false
set_option maxRecDepth 100000

def keyN (j : Nat) : ByteArray := keysA.getD j ByteArray.empty
theorem keysA_len : keysA.length = 64 := by decide
theorem keyN_mem {j : Nat} (h : j < 64) : keyN j ∈ keysA := by
  unfold keyN
  rw [List.getD_eq_getElem?_getD, List.getElem?_eq_getElem (by rw [keysA_len]; exact h)]
  exact List.getElem_mem _
theorem keys_ok : ∀ j : Fin 64, okK (keyN j.val) = true := by decide +kernel
theorem keyN_inj : ∀ i j : Fin 64, keyN i.val = keyN j.val → i = j := by decide +kernel
/-- All keys of a map are among the first so many. -/
def KI (n : Nat) : Tr → Prop
  | .leaf k _ => ∃ j, j < n ∧ k = keyN j
  | .fork _ _ l r => KI n l ∧ KI n r
theorem KI.mono {n m : Nat} (h : n ≤ m) : ∀ {t : Tr}, KI n t → KI m t
  | .leaf _ _, ⟨j, hj, e⟩ => ⟨j, by omega, e⟩
  | .fork _ _ l r, ⟨h1, h2⟩ => ⟨KI.mono h h1, KI.mono h h2⟩
theorem KI.lead {n : Nat} (h : ByteArray) : ∀ {t : Tr}, KI n t → ∃ j, j < n ∧ (leadL h t).1 = keyN j
  | .leaf _ _, ⟨j, hj, e⟩ => ⟨j, hj, e⟩
  | .fork a _ l r, ⟨h1, h2⟩ => by
    unfold leadL
    split
    · exact h1.lead h
    · exact h2.lead h
theorem KI.fork {n a : Nat} {h k v : ByteArray} {t : Tr} (hk : ∃ j, j < n ∧ k = keyN j) (ht : KI n t) : KI n (forkT a h k v t) := by
  unfold forkT
  split
  · exact ⟨hk, ht⟩
  · exact ⟨ht, hk⟩
theorem KI.put {n : Nat} (h : ByteArray) (a : Nat) (k v : ByteArray) (hk : ∃ j, j < n ∧ k = keyN j) : ∀ {t : Tr}, KI n t → KI n (putT h a k v t)
  | .leaf k' v', ht => by
    unfold putT
    split
    · exact hk
    · exact KI.fork hk ht
  | .fork b hh l r, ht => by
    unfold putT
    split
    · split
      · exact ⟨KI.put h a k v hk ht.1, ht.2⟩
      · exact ⟨ht.1, KI.put h a k v hk ht.2⟩
    · exact KI.fork hk ht
def KIO (n : Nat) : Option Tr → Prop
  | none => True
  | some t => KI n t
theorem KI.nrm {n : Nat} : ∀ {t : Tr}, KI n t → KI n t.nrm
  | .leaf _ _, h => h
  | .fork _ _ l r, h => ⟨KI.nrm h.1, KI.nrm h.2⟩

theorem put_lead (h : ByteArray) (a : Nat) (k v : ByteArray) : ∀ t : Tr, leadL h (putT h a k v t) = (k, v)
  | .leaf k' v' => by
    unfold putT
    split
    · rfl
    · unfold forkT; split
      · rename_i hb; unfold leadL; rw [if_pos hb]; rfl
      · rename_i hb; unfold leadL; rw [if_neg hb]; rfl
  | .fork b hh l r => by
    unfold putT
    split
    · split
      · rename_i hb; unfold leadL; rw [if_pos hb]; exact put_lead h a k v l
      · rename_i hb; unfold leadL; rw [if_neg hb]; exact put_lead h a k v r
    · unfold forkT; split
      · rename_i hb; unfold leadL; rw [if_pos hb]; rfl
      · rename_i hb; unfold leadL; rw [if_neg hb]; rfl
theorem drop_fork {a : Nat} {h k v : ByteArray} {t : Tr} : dropT h (forkT a h k v t) = some t := by
  unfold forkT
  split
  · rename_i hb; unfold dropT; rw [if_pos hb]; rfl
  · rename_i hb; unfold dropT; rw [if_neg hb]; rfl
theorem drop_put (h : ByteArray) (a : Nat) (k v : ByteArray) (ha : a < 256) : ∀ t : Tr, dropT h (putT h a k v t) = some t
  | .leaf k' v' => by
    unfold putT
    rw [if_neg (by omega)]
    exact drop_fork
  | .fork b hh l r => by
    unfold putT
    split
    · split
      · rename_i hb; unfold dropT; rw [if_pos hb, drop_put h a k v ha l]
      · rename_i hb; unfold dropT; rw [if_neg hb, drop_put h a k v ha r]
    · exact drop_fork
theorem nrm_hash2 : ∀ t : Tr, t.nrm.nrm = t.nrm
  | .leaf _ _ => rfl
  | .fork a h l r => by
    show Tr.fork a l.nrm.nrm.hash l.nrm.nrm r.nrm.nrm = _
    rw [nrm_hash2 l, nrm_hash2 r]; rfl
theorem drop_nrm (h : ByteArray) : ∀ t : Tr, nrmO (dropT h t.nrm) = nrmO (dropT h t)
  | .leaf _ _ => rfl
  | .fork a hh l r => by
    have h1 := drop_nrm h l
    have h2 := drop_nrm h r
    unfold Tr.nrm dropT
    split
    · cases e1 : dropT h l.nrm <;> cases e2 : dropT h l <;> rw [e1, e2] at h1
      · show some (Tr.nrm (Tr.nrm r)) = some (Tr.nrm r); rw [nrm_hash2]
      · simp [nrmO] at h1
      · simp [nrmO] at h1
      · rename_i x y
        have hx : x.nrm = y.nrm := by simpa [nrmO] using h1
        show some (Tr.fork a x.nrm.hash x.nrm r.nrm.nrm) = some (Tr.fork a y.nrm.hash y.nrm r.nrm)
        rw [hx, nrm_hash2]
    · cases e1 : dropT h r.nrm <;> cases e2 : dropT h r <;> rw [e1, e2] at h2
      · show some (Tr.nrm (Tr.nrm l)) = some (Tr.nrm l); rw [nrm_hash2]
      · simp [nrmO] at h2
      · simp [nrmO] at h2
      · rename_i x y
        have hx : x.nrm = y.nrm := by simpa [nrmO] using h2
        show some (Tr.fork a l.nrm.nrm.hash l.nrm.nrm x.nrm) = some (Tr.fork a l.nrm.hash l.nrm y.nrm)
        rw [hx, nrm_hash2]
theorem rootR_nrm (o : Option Tr) : rootR (nrmO o) = rootR o := by
  cases o with
  | none => rfl
  | some t => exact nrm_trR t
theorem drop_gone (h : ByteArray) : ∀ (t : Tr) (m : Nat), Rise m t → Sep t → ∀ t', dropT h t = some t' → kh (leadL h t').1 ≠ h
  | .leaf _ _, m, hr, hs, t', e => by cases e
  | .fork a hh l r, m, hr, hs, t', e => by
    obtain ⟨r0, r1, r2, r3⟩ := hr
    obtain ⟨s0, s1, s2, s3, s4⟩ := hs
    have hll := r2.le
    have hrl := r3.le
    have hfd := (fd_iff l.hash r.hash a r1).1 s1
    unfold dropT at e
    split at e
    · rename_i hb
      cases hd : dropT h l with
      | none =>
        rw [hd] at e
        cases e
        intro eq
        have h1 := lead_alike h r (a + 1) r3 s4 a (by omega)
        rw [eq, hb] at h1
        exact hfd.2 (by rw [s2, h1])
      | some l' =>
        rw [hd] at e
        cases e
        have ih := drop_gone h l (a + 1) r2 s3 l' hd
        unfold leadL
        rw [if_pos hb]
        exact ih
    · rename_i hb
      cases hd : dropT h r with
      | none =>
        rw [hd] at e
        cases e
        intro eq
        have h1 := lead_alike h l (a + 1) r2 s3 a (by omega)
        rw [eq, s2] at h1
        exact hb h1
      | some r' =>
        rw [hd] at e
        cases e
        have ih := drop_gone h r (a + 1) r3 s4 r' hd
        unfold leadL
        rw [if_neg hb]
        exact ih
theorem dropT_lvN (h : ByteArray) : ∀ (t : Tr), lvO (dropT h t) ≤ t.lvN
  | .leaf _ _ => Nat.zero_le _
  | .fork a hh l r => by
    have h1 := dropT_lvN h l
    have h2 := dropT_lvN h r
    show _ ≤ l.lvN + r.lvN
    unfold dropT
    split
    · cases e : dropT h l with
      | none => show r.lvN ≤ _; omega
      | some l' => rw [e] at h1; have h1 : l'.lvN ≤ l.lvN := h1; show l'.lvN + r.lvN ≤ _; omega
    · cases e : dropT h r with
      | none => show l.lvN ≤ _; omega
      | some r' => rw [e] at h2; have h2 : r'.lvN ≤ r.lvN := h2; show l.lvN + r'.lvN ≤ _; omega

/-- A map as the drawn ones are: right, of keys that are drawn, no more of them than there may be. -/
structure DrM (o : Option Tr) : Prop where
  ok : OkO o
  ri : RiseO o
  sp : SepO o
  sz : lvO o ≤ 40
  ki : KIO 64 o
theorem DrM.map {o : Option Tr} (h : DrM o) : mapV (brOf o) = some (nrmO o) := mapV_back o h.ok h.ri h.sp h.sz
theorem tx_key {k : ByteArray} (h : okK k = true) : txC k.size 1 24 = 0 := by
  obtain ⟨h1, h2⟩ := okK_iff.1 h
  unfold txC
  rw [if_neg (by omega), if_pos (by rw [inB_iff]; omega)]
theorem mg_dr {o : Option Tr} (h : DrM o) {key : ByteArray} (hk : okK key = true) : mgOut (brOf o) key = match getV (nrmO o) key with
    | none => .tuple #[.string ⟨#[]⟩, .int .i64 5]
    | some x => .tuple #[.string x, .int .i64 0] := by
  unfold mgOut
  rw [if_pos (tx_key hk), h.map]
  rfl
theorem mr_dr {o : Option Tr} (h : DrM o) : mrOut (brOf o) = .tuple #[.string (rootR o), .int .i64 0] := by
  unfold mrOut
  rw [h.map]
  show Value.tuple #[.string (rootR (nrmO o)), .int .i64 0] = _
  rw [rootR_nrm]
theorem mp_dr {o : Option Tr} (h : DrM o) {key val : ByteArray} (hk : okK key = true) (hv : val.size ≤ 60) : mpOut (brOf o) key val = mpO (nrmO o) key val := by
  have e1 : opC (brOf o) key = 0 := by unfold opC; rw [if_pos (tx_key hk), h.map]
  have e2 : txC val.size 0 60 = 0 := by
    unfold txC
    rw [if_neg (by omega), if_pos (by rw [inB_iff]; omega)]
  unfold mpOut
  rw [e1, e2, if_pos (by decide), h.map]
theorem md_dr {o : Option Tr} (h : DrM o) {key : ByteArray} (hk : okK key = true) : mdOut (brOf o) key = mdO (nrmO o) key := by
  unfold mdOut
  rw [if_pos (tx_key hk), h.map]
theorem DrM.nrm {o : Option Tr} (h : DrM o) : DrM (nrmO o) := by
  have hm := h.map
  have h1 := (mapV_br hm).2
  have h2 := mapV_rise hm
  have h3 := mapV_sep hm
  refine ⟨h1, h2, h3, ?_, ?_⟩
  · cases o with
    | none => exact Nat.zero_le _
    | some t => show t.nrm.lvN ≤ 40; rw [nrm_lvN]; exact h.sz
  · cases o with
    | none => trivial
    | some t => exact KI.nrm h.ki
theorem leaf_dr {j : Nat} (hj : j < 64) {val : ByteArray} (hv : val.size ≤ 60) : DrM (some (.leaf (keyN j) val)) :=
  ⟨⟨keys_ok ⟨j, hj⟩, hv⟩, Nat.zero_le _, ⟨trivial, by show 1 ≤ 40; omega⟩, by show 1 ≤ 40; omega, j, hj, rfl⟩
theorem put_dr {t : Tr} (h : DrM (some t)) {j : Nat} (hj : j < 64) {val : ByteArray} (hv : val.size ≤ 60) (hn : ¬ (putAt t (keyN j) < 256 ∧ t.lvN = 40)) : DrM (some (putT (kh (keyN j)) (putAt t (keyN j)) (keyN j) val t)) := by
  have hat : putAt t (keyN j) ≤ 256 := fd_le _ _
  have hks := kh_size (k := keyN j) (by have := (okK_iff.1 (keys_ok ⟨j, hj⟩)).2; dsimp only at this; omega)
  have hf := putT_facts (keyN j) val t 0 h.ri h.sp.1 (putAt t (keyN j)) rfl (Nat.zero_le _)
  have hl := putT_lvN (kh (keyN j)) (putAt t (keyN j)) (keyN j) val hat t h.ok
  have h40 : t.lvN ≤ 40 := h.sz
  have hsz : (putT (kh (keyN j)) (putAt t (keyN j)) (keyN j) val t).lvN ≤ 40 := by
    rw [hl]; split <;> omega
  exact ⟨putT_ok _ _ _ _ hat hks (keys_ok ⟨j, hj⟩) hv t h.ok, hf.1, ⟨hf.2.1, hsz⟩, hsz, KI.put _ _ _ _ ⟨j, hj, rfl⟩ h.ki⟩
/-- What is left of a map of drawn keys, one of them dropped. -/
theorem drop_dr {t : Tr} (h : DrM (some t)) (hh : ByteArray) : OkO (dropT hh t) ∧ RiseO (dropT hh t) ∧ SepO (dropT hh t) ∧ lvO (dropT hh t) ≤ 40 := by
  have h1 := dropT_ok hh t h.ok
  have h2 := dropT_facts hh t 0 h.ri h.sp.1
  have h3 := dropT_lvN hh t
  have h40 : t.lvN ≤ 40 := h.sz
  cases e : dropT hh t with
  | none => exact ⟨trivial, trivial, trivial, Nat.zero_le _⟩
  | some t' =>
    rw [e] at h1 h2 h3
    have h3' : t'.lvN ≤ t.lvN := h3
    exact ⟨h1, h2.1, ⟨h2.2.1, by omega⟩, by show t'.lvN ≤ 40; omega⟩
def newB : ByteArray := ⟨#[110, 101, 119]⟩
theorem dr_small {o : Option Tr} (h : OkO o) : (brOf o).key.size ≤ maxLen ∧ (brOf o).val.size ≤ maxLen := by
  unfold maxLen
  cases o with
  | none => exact ⟨by decide, by decide⟩
  | some t =>
    cases t with
    | leaf k v => have := (okK_iff.1 h.1).2; have := h.2; exact ⟨by show k.size ≤ _; omega, by show v.size ≤ _; omega⟩
    | fork a hh l r => exact ⟨Nat.zero_le _, Nat.zero_le _⟩
/-- All that the law asks of a map of drawn keys and a drawn key. -/
theorem map_drops {o : Option Tr} (h : DrM o) {j : Nat} (hj : j < 64) :
    ∃ s c1, mgOut (brOf o) (keyN j) = .tuple #[.string s, .int .i64 c1] ∧ ((mpOut (brOf o) (keyN j) newB).2 = 7 ∨ (mpOut (brOf o) (keyN j) newB).2 = 0 ∧ ∃ o2 o3 after, (mpOut (brOf o) (keyN j) newB).1 = brOf o2 ∧ OkO o2 ∧ OkO o3 ∧ mdOut (brOf o2) (keyN j) = (brOf o3, 0) ∧
      mrOut (brOf o3) = .tuple #[.string after, .int .i64 0] ∧ (mdOut (brOf o3) (keyN j)).2 = 5 ∧ mapB (brOf o3) = true ∧ (c1 = 0 ∨ after = rootR o)) := by
  have hk := keys_ok ⟨j, hj⟩
  dsimp only at hk
  have hks := kh_size (k := keyN j) (by have := (okK_iff.1 hk).2; omega)
  have hv : newB.size ≤ 60 := by decide
  rw [mg_dr h hk, mp_dr h hk hv]
  cases o with
  | none =>
    refine ⟨⟨#[]⟩, 5, rfl, .inr ⟨rfl, some (.leaf (keyN j) newB), none, rootR none, rfl, (leaf_dr hj hv).ok, trivial, ?_, rfl, ?_, rfl, .inr rfl⟩⟩
    · rw [md_dr (leaf_dr hj hv) hk]
      show (if keyN j = keyN j then (brOf none, (0 : Int)) else (brOf none, 5)) = _
      rw [if_pos rfl]
    · have hn : DrM none := ⟨trivial, trivial, trivial, Nat.zero_le _, trivial⟩
      rw [md_dr hn hk]; rfl
  | some t =>
    have hN : DrM (some t.nrm) := h.nrm
    have hg : getV (nrmO (some t)) (keyN j) = if (leadL (kh (keyN j)) t.nrm).1 = keyN j then some (leadL (kh (keyN j)) t.nrm).2 else none := rfl
    have hmp : mpO (nrmO (some t)) (keyN j) newB = if putAt t.nrm (keyN j) < 256 ∧ t.nrm.lvN = 40 then (brOf none, 7) else (brOf (some (putT (kh (keyN j)) (putAt t.nrm (keyN j)) (keyN j) newB t.nrm)), 0) := rfl
    rw [hg, hmp]
    by_cases hfull : putAt t.nrm (keyN j) < 256 ∧ t.nrm.lvN = 40
    · rw [if_pos hfull]
      split
      · exact ⟨_, _, rfl, .inl rfl⟩
      · exact ⟨_, _, rfl, .inl rfl⟩
    rw [if_neg hfull]
    have hP := put_dr hN hj hv hfull
    generalize hT2 : putT (kh (keyN j)) (putAt t.nrm (keyN j)) (keyN j) newB t.nrm = t2 at hP ⊢
    have hP2 := hP.nrm
    have hlead : leadL (kh (keyN j)) t2.nrm = (keyN j, newB) := by rw [nrm_lead, ← hT2]; exact put_lead _ _ _ _ _
    have hd1 : mdOut (brOf (some t2)) (keyN j) = (brOf (dropT (kh (keyN j)) t2.nrm), 0) := by
      rw [md_dr hP hk]
      show (if (leadL (kh (keyN j)) t2.nrm).1 = keyN j then (brOf (dropT (kh (keyN j)) t2.nrm), (0 : Int)) else (brOf none, 5)) = _
      rw [hlead, if_pos rfl]
    obtain ⟨q1, q2, q3, q4⟩ := drop_dr (t := t2.nrm) hP2 (kh (keyN j))
    have hgone := drop_gone (kh (keyN j)) t2.nrm 0 hP2.ri hP2.sp.1
    have hback := mapV_back _ q1 q2 q3 q4
    have hroot : putAt t.nrm (keyN j) < 256 → rootR (dropT (kh (keyN j)) t2.nrm) = rootR (some t) := by
      intro hlt
      rw [← rootR_nrm, drop_nrm, ← hT2, drop_put _ _ _ _ hlt, rootR_nrm]
      exact nrm_trR t
    have hcase : (∃ x, (if (leadL (kh (keyN j)) t.nrm).1 = keyN j then some (leadL (kh (keyN j)) t.nrm).2 else none) = some x) ∨ ((if (leadL (kh (keyN j)) t.nrm).1 = keyN j then some (leadL (kh (keyN j)) t.nrm).2 else none) = none ∧ putAt t.nrm (keyN j) < 256) := by
      by_cases he : (leadL (kh (keyN j)) t.nrm).1 = keyN j
      · exact .inl ⟨_, by rw [if_pos he]⟩
      · refine .inr ⟨by rw [if_neg he], ?_⟩
        obtain ⟨i, hi, hli⟩ := KI.lead (kh (keyN j)) (t := t.nrm) hN.ki
        have hok := (lead_ok (kh (keyN j)) t.nrm hN.ok).1
        have h32 := kh_size (k := (leadL (kh (keyN j)) t.nrm).1) (by have := (okK_iff.1 hok).2; omega)
        refine (fd_ne h32 hks).2 (fun eq => he ?_)
        rw [hli] at eq ⊢
        exact kh_inj (keyN_mem hi) (keyN_mem hj) eq
    have hfin : ∀ c1 : Int, (c1 = 0 ∨ rootR (dropT (kh (keyN j)) t2.nrm) = rootR (some t)) → ∃ o2 o3 after, brOf (some t2) = brOf o2 ∧ OkO o2 ∧ OkO o3 ∧ mdOut (brOf o2) (keyN j) = (brOf o3, 0) ∧ mrOut (brOf o3) = .tuple #[.string after, .int .i64 0] ∧ (mdOut (brOf o3) (keyN j)).2 = 5 ∧ mapB (brOf o3) = true ∧ (c1 = 0 ∨ after = rootR (some t)) := by
      intro c1 hc
      refine ⟨some t2, dropT (kh (keyN j)) t2.nrm, rootR (dropT (kh (keyN j)) t2.nrm), rfl, hP.ok, q1, hd1, ?_, ?_, ?_, hc⟩
      · unfold mrOut
        rw [hback]
        show Value.tuple #[.string (rootR (nrmO _)), .int .i64 0] = _
        rw [rootR_nrm]
      · unfold mdOut
        rw [if_pos (tx_key hk), hback]
        cases e : dropT (kh (keyN j)) t2.nrm with
        | none => rfl
        | some t4 =>
          have hne := hgone t4 e
          show (if (leadL (kh (keyN j)) t4.nrm).1 = keyN j then (brOf (dropT (kh (keyN j)) t4.nrm), (0 : Int)) else (brOf none, 5)).2 = 5
          rw [nrm_lead, if_neg (fun eq => hne (by rw [eq]))]
      · rw [mapB_V, hback]; rfl
    rcases hcase with ⟨x, hx⟩ | ⟨hx, hlt⟩
    · rw [hx]
      exact ⟨x, 0, rfl, .inr ⟨rfl, hfin 0 (.inl rfl)⟩⟩
    · rw [hx]
      exact ⟨⟨#[]⟩, 5, rfl, .inr ⟨rfl, hfin 5 (.inr (hroot hlt))⟩⟩
end Go.Proofs.YtkcpdjeemdlgcaaDoor.Sha
namespace Go.Proofs.YtkcpdjeemdlgcaaDoor.Sha
open Go.ChangeShapes Go.WideShapes Go.ChangeAt Go.RowKit
set_option linter.unusedVariables false
set_option linter.unusedSimpArgs false
set_option maxRecDepth 100000

def headL : List ByteArray := [⟨#[97]⟩, ⟨#[98]⟩, ⟨#[99]⟩, ⟨#[100]⟩, ⟨#[101]⟩, ⟨#[102]⟩, ⟨#[97, 108, 112, 104, 97]⟩, ⟨#[98, 101, 116, 97]⟩]
def sufL : List ByteArray := [⟨#[]⟩, ⟨#[]⟩, ⟨#[49]⟩, ⟨#[50]⟩]
def sufI (k : Nat) : Nat := k - 1
theorem key_of : ∀ (i : Fin 8) (k : Fin 4), headL.getD i.val ByteArray.empty ++ sufL.getD k.val ByteArray.empty = keyN (3 * i.val + sufI k.val) := by decide +kernel
theorem head_size : ∀ i : Fin 8, (headL.getD i.val ByteArray.empty).size ≤ 5 := by decide +kernel
theorem suf_size : ∀ i : Fin 4, (sufL.getD i.val ByteArray.empty).size ≤ 1 := by decide +kernel
def datL : List ByteArray := [⟨#[]⟩, ⟨#[49]⟩, ⟨#[50]⟩, ⟨#[120]⟩, ⟨#[108, 111, 110, 103, 101, 114, 32, 118, 97, 108, 117, 101]⟩]
theorem dat_size : ∀ i : Fin 5, (datL.getD i.val ByteArray.empty).size ≤ 60 := by decide +kernel
theorem Src.bel {w w' : World} {b : Nat} {a : Option Addr} {cap : Nat} {l : List Int} {M : Int} (h : Src w b a cap l M) (hb : Below w.heap.size w w') : Src w' b a cap l M :=
  h.grown (r := none) ⟨hb.os, hb.tape, hb.output, hb.size, fun k hk _ => hb.block k hk⟩ (fun k e => by cases e)
set_option maxHeartbeats 1000000 in
theorem srcSizeN_any (m : Nat) (hm : m ≤ 60) (w : World) (b : Nat) (a : Option Addr) (cap : Nat) (l : List Int) (M : Int) (h : Src w b a cap l M) (hm0 : 1 ≤ m) :
    Calls Tryd.prog 84 #[.pointer (some ⟨b, 0, none⟩), .int .i64 (m : Int)] w fun e w' => ∃ n : Int, e = .returned (.int .i64 n) ∧ 1 ≤ n ∧ n ≤ m ∧ w' = w := by
  have hl := h.len
  obtain ⟨p, s, _, _, _, _, c0, _⟩ := h
  generalize l.length = n at *
  have q1 : (n : Int).tdiv 12 = (n : Int) / 12 := Int.tdiv_eq_ediv_of_nonneg (by omega)
  have q2 : IntKind.i64.wrap ((n : Int) / 12) = (n : Int) / 12 := wrapS _ (by omega) (by omega)
  have q3 : IntKind.i64.wrap (1 + (n : Int) / 12) = 1 + (n : Int) / 12 := wrapS _ (by omega) (by omega)
  generalize hk : (n : Int) / 12 = k at *
  have hk0 : 0 ≤ k := by omega
  clear hk hl
  by_cases h20 : 1 + k ≤ (m : Int)
  · go_enter Tryd.func84, Tryd.ntmps84
    go_wp2_with fail
    go_ret
    exact ⟨_, rfl, by omega, by omega, rfl⟩
  · go_enter Tryd.func84, Tryd.ntmps84
    go_wp2_with fail
    go_ret
    exact ⟨_, rfl, by omega, by omega, rfl⟩
set_option maxHeartbeats 1000000 in
theorem datumM_any (w : World) (b : Nat) (a : Option Addr) (cap : Nat) (l : List Int) (M : Int) (h : Src w b a cap l M) (hM : M ≤ 900000000) :
    Calls Tryd.prog 85 #[.pointer (some ⟨b, 0, none⟩)] w fun e w' => ∃ s : ByteArray, e = .returned (.string s) ∧ s.size ≤ 60 ∧ Src w' b a cap l (M + 3) ∧ Touch (fun k => k = b) w w' := by
  have hbl := h.lt
  have H := hide (h.alloc (.cells #[.string ⟨#[]⟩, .string ⟨#[49]⟩, .string ⟨#[50]⟩, .string ⟨#[120]⟩, .string ⟨#[108, 111, 110, 103, 101, 114, 32, 118, 97, 108, 117, 101]⟩] 9))
  have HB := hide (Blk.new w #[.string ⟨#[]⟩, .string ⟨#[49]⟩, .string ⟨#[50]⟩, .string ⟨#[120]⟩, .string ⟨#[108, 111, 110, 103, 101, 114, 32, 118, 97, 108, 117, 101]⟩] 9 w.heap.size rfl)
  have HT := hide ((Touch.refl (fun k => k = b) w).alloc (.cells #[.string ⟨#[]⟩, .string ⟨#[49]⟩, .string ⟨#[50]⟩, .string ⟨#[120]⟩, .string ⟨#[108, 111, 110, 103, 101, 114, 32, 118, 97, 108, 117, 101]⟩] 9))
  clear h
  go_enter Tryd.func85, Tryd.ntmps85
  go_wp2_with fail
  generalize w.alloc (.cells #[.string ⟨#[]⟩, .string ⟨#[49]⟩, .string ⟨#[50]⟩, .string ⟨#[120]⟩, .string ⟨#[108, 111, 110, 103, 101, 114, 32, 118, 97, 108, 117, 101]⟩] 9) = w0 at *
  refine (pick_any datL w.heap.size w0 b a cap l M (unhide H) hM (unhide HB) (by omega) (by decide) (by decide)).mono ?_
  rintro e w1 ⟨i, hi, rfl, hS, hO⟩
  have R := hide (And.intro hS ((unhide HT).trans hO.touch (fun _ _ h => h)))
  have hq := hide (show (datL.getD i ByteArray.empty).size ≤ 60 from dat_size ⟨i, hi⟩)
  clear hS hO HT HB H
  generalize datL.getD i ByteArray.empty = s at *
  go_wp2_with fail
  go_ret
  exact ⟨s, rfl, unhide hq, (unhide R).1, (unhide R).2⟩
set_option maxHeartbeats 2000000 in
theorem mapKey_any (w : World) (b : Nat) (a : Option Addr) (cap : Nat) (l : List Int) (M : Int) (h : Src w b a cap l M) (hM : M ≤ 800000000) :
    Calls Tryd.prog 25 #[.pointer (some ⟨b, 0, none⟩)] w fun e w' => ∃ j, j < 24 ∧ e = .returned (.string (keyN j)) ∧ Src w' b a cap l (M + 6) ∧ Touch (fun k => k = b) w w' := by
  have hbl := h.lt
  have H := hide (h.alloc (.cells #[.string ⟨#[97]⟩, .string ⟨#[98]⟩, .string ⟨#[99]⟩, .string ⟨#[100]⟩, .string ⟨#[101]⟩, .string ⟨#[102]⟩, .string ⟨#[97, 108, 112, 104, 97]⟩, .string ⟨#[98, 101, 116, 97]⟩] 9))
  have HB := hide (Blk.new w #[.string ⟨#[97]⟩, .string ⟨#[98]⟩, .string ⟨#[99]⟩, .string ⟨#[100]⟩, .string ⟨#[101]⟩, .string ⟨#[102]⟩, .string ⟨#[97, 108, 112, 104, 97]⟩, .string ⟨#[98, 101, 116, 97]⟩] 9 w.heap.size rfl)
  have HT := hide ((Touch.refl (fun k => k = b) w).alloc (.cells #[.string ⟨#[97]⟩, .string ⟨#[98]⟩, .string ⟨#[99]⟩, .string ⟨#[100]⟩, .string ⟨#[101]⟩, .string ⟨#[102]⟩, .string ⟨#[97, 108, 112, 104, 97]⟩, .string ⟨#[98, 101, 116, 97]⟩] 9))
  clear h
  go_enter Tryd.func25, Tryd.ntmps25
  go_wp2_with fail
  generalize w.alloc (.cells #[.string ⟨#[97]⟩, .string ⟨#[98]⟩, .string ⟨#[99]⟩, .string ⟨#[100]⟩, .string ⟨#[101]⟩, .string ⟨#[102]⟩, .string ⟨#[97, 108, 112, 104, 97]⟩, .string ⟨#[98, 101, 116, 97]⟩] 9) = w0 at *
  refine (pick_any headL w.heap.size w0 b a cap l M (unhide H) (by omega) (unhide HB) (by omega) (by decide) (by decide)).mono ?_
  rintro e w1 ⟨i, hi, rfl, hS, hO⟩
  have T1 := hide ((unhide HT).trans hO.touch (fun _ _ h => h))
  have hbl1 := hS.lt
  have H1 := hide (hS.alloc (.cells #[.string ⟨#[]⟩, .string ⟨#[]⟩, .string ⟨#[49]⟩, .string ⟨#[50]⟩] 9))
  have HB1 := hide (Blk.new w1 #[.string ⟨#[]⟩, .string ⟨#[]⟩, .string ⟨#[49]⟩, .string ⟨#[50]⟩] 9 w1.heap.size rfl)
  have T1b := hide ((unhide T1).alloc (.cells #[.string ⟨#[]⟩, .string ⟨#[]⟩, .string ⟨#[49]⟩, .string ⟨#[50]⟩] 9))
  have HS1 := hide (head_size ⟨i, hi⟩)
  have HK := hide (fun k => key_of ⟨i, hi⟩ k)
  clear hS hO HT HB H T1
  dsimp only at HS1 HK
  generalize headL.getD i ByteArray.empty = hd at *
  go_wp2_with fail
  generalize w1.alloc (.cells #[.string ⟨#[]⟩, .string ⟨#[]⟩, .string ⟨#[49]⟩, .string ⟨#[50]⟩] 9) = w2 at *
  refine (pick_any sufL w1.heap.size w2 b a cap l (M + 3) (unhide H1) (by omega) (unhide HB1) (by omega) (by decide) (by decide)).mono ?_
  rintro e w3 ⟨k, hk, rfl, hS, hO⟩
  have R := hide (And.intro hS ((unhide T1b).trans hO.touch (fun _ _ h => h)))
  have HS2 := hide (suf_size ⟨k, hk⟩)
  have HK2 := hide (unhide HK ⟨k, hk⟩)
  have hi8 : i < 8 := hi
  have hk4 : k < 4 := hk
  clear hS hO HB1 H1 T1b HK
  dsimp only at HS2 HK2
  generalize sufL.getD k ByteArray.empty = sf at *
  have hz : hd.size + sf.size ≤ 6 := by have h1 := unhide HS1; have h2 := unhide HS2; omega
  go_wp2_with fail
  go_ret
  refine ⟨3 * i + sufI k, by unfold sufI; omega, by rw [unhide HK2]; rfl, ?_, (unhide R).2⟩
  have := (unhide R).1
  exact this.mono (by omega)
end Go.Proofs.YtkcpdjeemdlgcaaDoor.Sha
namespace Go.Proofs.YtkcpdjeemdlgcaaDoor
open Go.ChangeShapes Go.WideShapes Go.ChangeAt Go.RowKit Go.Shelf
set_option linter.unusedVariables false

/-- A number's digits. -/
def digT (n : Nat) : ByteArray := ⟨(Lib.decDigits n).toArray⟩
end Go.Proofs.YtkcpdjeemdlgcaaDoor
namespace Go.Proofs.YtkcpdjeemdlgcaaDoor
open Go.ChangeShapes Go.WideShapes Go.ChangeAt Go.RowKit
set_option linter.unusedVariables false

/-- One that only reads comes first. -/
theorem tkH {P : Program} {md : Region.Mode} {ops : Array Oper} {Q : Exit → Act → World → Prop} {S : World → Prop} (i : Nat) {oi : Oper} {v : Value} {fuel : Nat} {listed : Array Bool} {a a' : Act} {w : World} (hi : ops[i]? = some oi)
    (h : wpAnyH P md ops Q S fuel (listed.setIfInBounds i true) a' w)
    (hs : Region.noSelect ops = true := by kernel_rfl) (hf : Region.free md ops listed i = true := by kernel_rfl) (hr : (Region.ready md ops listed).contains i = true := by kernel_rfl)
    (hQ : ∀ c a w, Q (.panic c) (a.put oi.dst v) w → Q (.panic c) a w := by exact fun _ _ _ h => h) (hy : YieldsIf P ops S oi v a := by (refine Or.inl ⟨by rfl, ?_⟩; intro wq hSw; (try dsimp only at hSw); (try simp only [List.getElem_toArray, List.getElem_cons_succ, List.getElem_cons_zero]); go_simp; try with_reducible rfl)) (hS : S w := by assumption)
    (ha : a.put oi.dst v = a' := by ((try simp only [Act.put, List.getElem_toArray, List.getElem_cons_succ, List.getElem_cons_zero, List.setIfInBounds_toArray, List.set_cons_zero, List.set_cons_succ]); try rfl)) : wpAnyH P md ops Q S (fuel + 1) listed a w := by
  subst ha
  exact wpAnyH_take hi hs hf hr hQ hy hS h
/-- A step is done: S holds, and it goes on, what was put laid out. -/
theorem outH {P : Program} {md : Region.Mode} {ops : Array Oper} {Q : Exit → Act → World → Prop} {S : World → Prop} {fuel : Nat} {L : Array Bool} {K : Act → World → Prop} {a a' : Act} {w : World} (hK : Shut (∀ a w, S w → (S w → wpAnyH P md ops Q S fuel L a w) → K a w)) (hS : S w) (h : S w → wpAnyH P md ops Q S fuel L a' w)
    (ha : a = a' := by ((try simp only [Act.put, List.getElem_toArray, List.getElem_cons_succ, List.getElem_cons_zero, List.setIfInBounds_toArray, List.set_cons_zero, List.set_cons_succ]); try rfl)) : K a w := by
  subst ha
  exact hK.out _ _ hS h
/-- Just these are ready. -/
theorem rdy1 {P : Program} {md : Region.Mode} {ops : Array Oper} {Q : Exit → Act → World → Prop} {S : World → Prop} {fuel : Nat} {L : Array Bool} {a : Act} {w : World} (i : Nat) {oi : Oper} (ei : ops[i]? = some oi) (hi : ∀ K' : Act → World → Prop, Shut (∀ a w, S w → (S w → wpAnyH P md ops Q S fuel (L.setIfInBounds i true) a w) → K' a w) → if Region.wanted oi (yielded ops a.tmps) = true then Oper.wp P oi a w K' Q else K' (a.put oi.dst undef) w) (hr : Region.ready md ops L = [i] := by kernel_rfl) : wpAnyH P md ops Q S (fuel + 1) L a w :=
  wpAnyH_ready hr (by simp) (AllReadyH.cons ei hi AllReadyH.nil)
theorem rdy2 {P : Program} {md : Region.Mode} {ops : Array Oper} {Q : Exit → Act → World → Prop} {S : World → Prop} {fuel : Nat} {L : Array Bool} {a : Act} {w : World} (i j : Nat) {oi oj : Oper} (ei : ops[i]? = some oi) (ej : ops[j]? = some oj) (hi : ∀ K' : Act → World → Prop, Shut (∀ a w, S w → (S w → wpAnyH P md ops Q S fuel (L.setIfInBounds i true) a w) → K' a w) → if Region.wanted oi (yielded ops a.tmps) = true then Oper.wp P oi a w K' Q else K' (a.put oi.dst undef) w) (hj : ∀ K' : Act → World → Prop, Shut (∀ a w, S w → (S w → wpAnyH P md ops Q S fuel (L.setIfInBounds j true) a w) → K' a w) → if Region.wanted oj (yielded ops a.tmps) = true then Oper.wp P oj a w K' Q else K' (a.put oj.dst undef) w) (hr : Region.ready md ops L = [i, j] := by kernel_rfl) : wpAnyH P md ops Q S (fuel + 1) L a w :=
  wpAnyH_ready hr (by simp) (AllReadyH.cons ei hi (AllReadyH.cons ej hj AllReadyH.nil))
theorem rdy3 {P : Program} {md : Region.Mode} {ops : Array Oper} {Q : Exit → Act → World → Prop} {S : World → Prop} {fuel : Nat} {L : Array Bool} {a : Act} {w : World} (i j k : Nat) {oi oj ok : Oper} (ei : ops[i]? = some oi) (ej : ops[j]? = some oj) (ek : ops[k]? = some ok) (hi : ∀ K' : Act → World → Prop, Shut (∀ a w, S w → (S w → wpAnyH P md ops Q S fuel (L.setIfInBounds i true) a w) → K' a w) → if Region.wanted oi (yielded ops a.tmps) = true then Oper.wp P oi a w K' Q else K' (a.put oi.dst undef) w) (hj : ∀ K' : Act → World → Prop, Shut (∀ a w, S w → (S w → wpAnyH P md ops Q S fuel (L.setIfInBounds j true) a w) → K' a w) → if Region.wanted oj (yielded ops a.tmps) = true then Oper.wp P oj a w K' Q else K' (a.put oj.dst undef) w) (hk : ∀ K' : Act → World → Prop, Shut (∀ a w, S w → (S w → wpAnyH P md ops Q S fuel (L.setIfInBounds k true) a w) → K' a w) → if Region.wanted ok (yielded ops a.tmps) = true then Oper.wp P ok a w K' Q else K' (a.put ok.dst undef) w) (hr : Region.ready md ops L = [i, j, k] := by kernel_rfl) : wpAnyH P md ops Q S (fuel + 1) L a w :=
  wpAnyH_ready hr (by simp) (AllReadyH.cons ei hi (AllReadyH.cons ej hj (AllReadyH.cons ek hk AllReadyH.nil)))
/-- What was put is laid out. -/
theorem nrm {P : Program} {md : Region.Mode} {ops : Array Oper} {Q : Exit → Act → World → Prop} {S : World → Prop} {n : Nat} {L : Array Bool} {a a' : Act} {w : World} (h : wpAnyH P md ops Q S n L a' w) (e : a = a' := by ((try simp only [Act.put, List.getElem_toArray, List.getElem_cons_succ, List.getElem_cons_zero, List.setIfInBounds_toArray, List.set_cons_zero, List.set_cons_succ]); try rfl)) : wpAnyH P md ops Q S n L a w := by
  subst e; exact h
theorem nrmR {P : Program} {md : Region.Mode} {ops : Array Oper} {Q : Exit → Act → World → Prop} {S : World → Prop} {n : Nat} {L L' : Array Bool} {a a' : Act} {w : World} (h : wpAnyH P md ops Q S n L a w) (e : a = a' := by ((try simp only [Act.put, List.getElem_toArray, List.getElem_cons_succ, List.getElem_cons_zero, List.setIfInBounds_toArray, List.set_cons_zero, List.set_cons_succ]); try rfl)) (el : L = L' := by kernel_rfl) : wpAnyH P md ops Q S n L' a' w := by
  subst e; subst el; exact h
/-- A new box. -/
theorem newBox (w : World) (cs : Array Value) (t : TypeId) : Below w.heap.size w (w.alloc (.cells cs t)) ∧ Hid (Blk (w.alloc (.cells cs t)) w.heap.size cs.toList) := ⟨(Below.refl _ w).alloc (Nat.le_refl _) _, hide (Blk.new w cs t w.heap.size rfl)⟩
theorem hbtr {a b c : World} (h : Hid (Below a.heap.size a b)) (k : Below b.heap.size b c) : Hid (Below a.heap.size a c) := hide ((unhide h).trans (k.mono (unhide h).size))
/-- The head of a goal under a name, the place in it too. -/
theorem nameAt2 {α β γ δ : Type} (f : α → β → γ → δ → Prop) {x x' : α} {y y' : β} {z : γ} {u : δ} (hx : x = x') (hy : y = y') (h : ∀ F a0, F = f → a0 = z → F x' y' a0 u) : f x y z u := by
  subst hx; subst hy; exact h f z rfl rfl
end Go.Proofs.YtkcpdjeemdlgcaaDoor
namespace Go.Proofs.YtkcpdjeemdlgcaaDoor
open Go.ChangeShapes Go.WideShapes Go.ChangeAt Go.RowKit
set_option linter.unusedVariables false
set_option linter.unusedSimpArgs false

theorem conv_at (x : Int) (W : World) (g : Nat) (hc : W.cell? ⟨g, 0, none⟩ = some (.int .u8 x)) : (convert 22 9 (.slice (some ⟨g, 0, none⟩) 1 1)).run Tryd.prog W = .ok (.string (strOfNums [x])) W :=
  run_convert_bytes_arg (P := Tryd.prog) W 22 5 Tryd.underlying22 Tryd.underlying5 g 0 1 1 [x] rfl (fun i hi => by
    match i, hi with
    | 0, _ => exact hc) 9 Tryd.underlying9
theorem dig_one : ∀ n : Fin 10, strOfNums [48 + (n.val : Int)] = digT n.val := by decide +kernel
theorem dig_two : ∀ n : Fin 100, 10 ≤ n.val → digT (n.val / 10) ++ strOfNums [48 + (n.val : Int) % 10] = digT n.val := by decide +kernel
theorem dig_size : ∀ n : Fin 100, (digT n.val).size ≤ 2 := by decide +kernel
set_option maxRecDepth 100000 in
set_option maxHeartbeats 1000000 in
theorem l00Digits_one (n : Nat) (hn : n < 10) (w : World) :
    Calls Tryd.prog 87 #[.int .i64 n] w fun e w' => e = .returned (.string (digT n)) ∧ Below w.heap.size w w' := by
  have HD := hide (dig_one ⟨n, hn⟩)
  dsimp only at HD
  have B0 := hide ((Below.refl w.heap.size w).alloc (Nat.le_refl _) (.cells #[.int .u8 (48 + (n : Int))] 5))
  have X0 := hide (Blk.new w #[.int .u8 (48 + (n : Int))] 5 w.heap.size rfl)
  have hcv := conv_at (48 + (n : Int)) (w.alloc (.cells #[.int .u8 (48 + (n : Int))] 5)) w.heap.size ((unhide X0).cell 0 rfl)
  have w1 : IntKind.i64.wrap (48 + (n : Int)) = 48 + (n : Int) := by simp only [IntKind.wrap, IntKind.bits, IntKind.signed]; simp; omega
  have w2 : IntKind.u8.wrap (48 + (n : Int)) = 48 + (n : Int) := by simp only [IntKind.wrap, IntKind.bits, IntKind.signed]; simp; omega
  have h0 : ¬ (n : Int) < 0 := by omega
  have h1 : (n : Int) < 10 := by omega
  have h2 : ((n : Int) == -9223372036854775808) = false := by rw [beq_eq_false_iff_ne]; omega
  go_enter Tryd.func87, Tryd.ntmps87
  go_wp2_with fail
  go_ret
  exact ⟨by rw [unhide HD]; rfl, unhide B0⟩
set_option maxRecDepth 100000 in
set_option maxHeartbeats 2000000 in
theorem l00Digits_any (n : Nat) (hn : n < 100) (w : World) :
    Calls Tryd.prog 87 #[.int .i64 n] w fun e w' => e = .returned (.string (digT n)) ∧ Below w.heap.size w w' := by
  by_cases h10 : n < 10
  · exact l00Digits_one n h10 w
  · have HD := hide (dig_two ⟨n, hn⟩ (by dsimp only; omega))
    dsimp only at HD
    have HC := hide (fun wx => l00Digits_one (n / 10) (by omega) wx)
    have hz1 : (digT (n / 10)).size ≤ 2 := dig_size ⟨n / 10, by omega⟩
    obtain ⟨q, hqq⟩ : ∃ q : Nat, q = n / 10 := ⟨_, rfl⟩
    have hq : (n : Int).tdiv 10 = (q : Int) := by rw [Int.tdiv_eq_ediv_of_nonneg (by omega)]; omega
    have hq2 : (n : Int) / 10 = (q : Int) := by omega
    rw [← hqq] at HD HC hz1
    have hr : (n : Int).tmod 10 = (n : Int) % 10 := by rw [Int.tmod_eq_emod_of_nonneg (by omega)]
    have w0 : IntKind.i64.wrap (q : Int) = (q : Int) := by simp only [IntKind.wrap, IntKind.bits, IntKind.signed]; simp; omega
    have w1 : IntKind.i64.wrap (48 + (n : Int) % 10) = 48 + (n : Int) % 10 := by simp only [IntKind.wrap, IntKind.bits, IntKind.signed]; simp; omega
    have w2 : IntKind.u8.wrap (48 + (n : Int) % 10) = 48 + (n : Int) % 10 := by simp only [IntKind.wrap, IntKind.bits, IntKind.signed]; simp; omega
    have w3 : IntKind.i64.wrap ((n : Int) % 10) = (n : Int) % 10 := by simp only [IntKind.wrap, IntKind.bits, IntKind.signed]; simp; omega
    have h0 : ¬ (n : Int) < 0 := by omega
    have h1 : ¬ (n : Int) < 10 := by omega
    have h2 : ((n : Int) == -9223372036854775808) = false := by rw [beq_eq_false_iff_ne]; omega
    obtain ⟨x, hx⟩ : ∃ x : Int, x = 48 + (n : Int) % 10 := ⟨_, rfl⟩
    rw [← hx] at HD w1 w2
    have hx3 : 48 + (n : Int) % 10 = x := hx.symm
    clear hx
    have hs1 : (strOfNums [x]).size = 1 := by simp [strOfNums, ByteArray.size]
    clear hqq
    generalize digT q = s at *
    have hlim : ¬ (9223372036854775807 < s.size + 1) := by omega
    generalize digT n = t at *
    go_enter Tryd.func87, Tryd.ntmps87
    go_wp2_with fail
    refine wp_region_noPanic ?_
    refine wp_region_held_drew (S := (fun _ => True)) (by kernel_rfl) ?_ (fun hHeld => ?_)
    · trivial
    refine tkH 0 rfl ?_
    refine tkH 1 rfl ?_
    refine tkH 3 rfl ?_
    refine tkH 4 rfl ?_
    refine tkH 5 rfl ?_
    refine tkH 6 rfl ?_
    have HBq := hide (below_drewN (Below.refl w.heap.size w) 1)
    obtain ⟨wq, hwq⟩ : ∃ wq, wq = w.drew := ⟨_, rfl⟩
    change Hid (Below w.heap.size w w.drew) at HBq
    rw [← hwq] at HBq ⊢
    clear hwq
    refine wpAnyH_ready (rs := [2, 7]) (by kernel_rfl) (by simp) ?_
    refine AllReadyH.cons (o := _) rfl (fun K hK => ?_) (AllReadyH.cons (o := _) rfl (fun K hK => ?_) AllReadyH.nil)
    · skip
      go_simp
      refine (unhide HC wq).mono ?_
      rintro e v1 ⟨rfl, hb⟩
      have HBv1 := hide ((unhide HBq).trans (hb.mono (unhide HBq).size))
      clear hb
      go_wp2_with fail
      refine hK.out _ _ ?_ (fun hHeld => ?_)
      · trivial
      clear hK K
      (try simp only [Act.put, List.getElem_toArray, List.getElem_cons_succ, List.getElem_cons_zero, List.setIfInBounds_toArray, List.set_cons_zero, List.set_cons_succ])
      refine wpAnyH_ready (rs := [7]) (by kernel_rfl) (by simp) ?_
      refine AllReadyH.cons (o := _) rfl (fun K hK => ?_) AllReadyH.nil
      have HBv2 := hide ((unhide HBv1).alloc (unhide HBv1).size (.cells #[.int .u8 x] 5))
      have HXv2 := hide (Blk.new v1 #[.int .u8 x] 5 v1.heap.size rfl)
      go_simp
      refine hK.out _ _ ?_ (fun hHeld => ?_)
      · trivial
      clear hK K
      (try simp only [Act.put, List.getElem_toArray, List.getElem_cons_succ, List.getElem_cons_zero, List.setIfInBounds_toArray, List.set_cons_zero, List.set_cons_succ])
      generalize v1.alloc (.cells #[.int .u8 x] 5) = v2 at *
      generalize hgb : v1.heap.size = gv2 at *
      clear hgb
      refine wpAnyH_ready (rs := [8]) (by kernel_rfl) (by simp) ?_
      refine AllReadyH.cons (o := _) rfl (fun K hK => ?_) AllReadyH.nil
      have hcv := conv_at x v2 gv2 ((unhide HXv2).cell 0 rfl)
      go_simp
      refine hK.out _ _ ?_ (fun hHeld => ?_)
      · trivial
      clear hK K hcv
      (try simp only [Act.put, List.getElem_toArray, List.getElem_cons_succ, List.getElem_cons_zero, List.setIfInBounds_toArray, List.set_cons_zero, List.set_cons_succ])
      refine tkH 9 rfl ?_
      refine tkH 10 rfl ?_
      refine wpAnyH_done (by kernel_rfl) (NoPanic.normal ?_) _
      go_wp2_with fail
      go_ret
      exact ⟨by have h := unhide HD; subst h; rfl, unhide HBv2⟩
    · skip
      have HBv4 := hide ((unhide HBq).alloc (unhide HBq).size (.cells #[.int .u8 x] 5))
      have HXv4 := hide (Blk.new wq #[.int .u8 x] 5 wq.heap.size rfl)
      go_simp
      refine hK.out _ _ ?_ (fun hHeld => ?_)
      · trivial
      clear hK K
      (try simp only [Act.put, List.getElem_toArray, List.getElem_cons_succ, List.getElem_cons_zero, List.setIfInBounds_toArray, List.set_cons_zero, List.set_cons_succ])
      generalize wq.alloc (.cells #[.int .u8 x] 5) = v4 at *
      generalize hgb : wq.heap.size = gv4 at *
      clear hgb
      refine wpAnyH_ready (rs := [2, 8]) (by kernel_rfl) (by simp) ?_
      refine AllReadyH.cons (o := _) rfl (fun K hK => ?_) (AllReadyH.cons (o := _) rfl (fun K hK => ?_) AllReadyH.nil)
      · skip
        go_simp
        refine (unhide HC v4).mono ?_
        rintro e v5 ⟨rfl, hb⟩
        have HBv5 := hide ((unhide HBv4).trans (hb.mono (unhide HBv4).size))
        have HXv5 := hide ((unhide HXv4).below hb)
        clear hb
        go_wp2_with fail
        refine hK.out _ _ ?_ (fun hHeld => ?_)
        · trivial
        clear hK K
        (try simp only [Act.put, List.getElem_toArray, List.getElem_cons_succ, List.getElem_cons_zero, List.setIfInBounds_toArray, List.set_cons_zero, List.set_cons_succ])
        refine wpAnyH_ready (rs := [8]) (by kernel_rfl) (by simp) ?_
        refine AllReadyH.cons (o := _) rfl (fun K hK => ?_) AllReadyH.nil
        have hcv := conv_at x v5 gv4 ((unhide HXv5).cell 0 rfl)
        go_simp
        refine hK.out _ _ ?_ (fun hHeld => ?_)
        · trivial
        clear hK K hcv
        (try simp only [Act.put, List.getElem_toArray, List.getElem_cons_succ, List.getElem_cons_zero, List.setIfInBounds_toArray, List.set_cons_zero, List.set_cons_succ])
        refine tkH 9 rfl ?_
        refine tkH 10 rfl ?_
        refine wpAnyH_done (by kernel_rfl) (NoPanic.normal ?_) _
        go_wp2_with fail
        go_ret
        exact ⟨by have h := unhide HD; subst h; rfl, unhide HBv5⟩
      · skip
        have hcv := conv_at x v4 gv4 ((unhide HXv4).cell 0 rfl)
        go_simp
        refine hK.out _ _ ?_ (fun hHeld => ?_)
        · trivial
        clear hK K hcv
        (try simp only [Act.put, List.getElem_toArray, List.getElem_cons_succ, List.getElem_cons_zero, List.setIfInBounds_toArray, List.set_cons_zero, List.set_cons_succ])
        refine wpAnyH_ready (rs := [2]) (by kernel_rfl) (by simp) ?_
        refine AllReadyH.cons (o := _) rfl (fun K hK => ?_) AllReadyH.nil
        go_simp
        refine (unhide HC v4).mono ?_
        rintro e v8 ⟨rfl, hb⟩
        have HBv8 := hide ((unhide HBv4).trans (hb.mono (unhide HBv4).size))
        clear hb
        go_wp2_with fail
        refine hK.out _ _ ?_ (fun hHeld => ?_)
        · trivial
        clear hK K
        (try simp only [Act.put, List.getElem_toArray, List.getElem_cons_succ, List.getElem_cons_zero, List.setIfInBounds_toArray, List.set_cons_zero, List.set_cons_succ])
        refine tkH 9 rfl ?_
        refine tkH 10 rfl ?_
        refine wpAnyH_done (by kernel_rfl) (NoPanic.normal ?_) _
        go_wp2_with fail
        go_ret
        exact ⟨by have h := unhide HD; subst h; rfl, unhide HBv8⟩
end Go.Proofs.YtkcpdjeemdlgcaaDoor
namespace Go.Proofs.YtkcpdjeemdlgcaaDoor.Sha
open Go.ChangeShapes Go.WideShapes Go.ChangeAt Go.RowKit
set_option linter.unusedVariables false
set_option linter.unusedSimpArgs false
set_option maxRecDepth 100000

theorem kdig : ∀ i : Fin 40, (⟨#[107]⟩ : ByteArray) ++ digT i.val = keyN (24 + i.val) := by decide +kernel
set_option maxHeartbeats 1000000 in
/-- How many leaves a drawn map has. -/
theorem sizeO_spec (o : Option Tr) (h : DrM o) (S : Nat → Prop) (kv : Value) (w : World) (hB : Brs S w kv (brOf o).kids) :
    Calls Tryd.prog 45 #[.agg #[.string (brOf o).key, .string (brOf o).val, .int .i64 (brOf o).at_, kv]] w fun e w' => e = .returned (.int .i64 ((lvO o : Nat) : Int)) ∧ Below w.heap.size w w' := by
  cases o with
  | some t => exact l07Size_any t h.ok (Nat.le_trans h.sz (by omega)) S kv w hB
  | none =>
    obtain ⟨sa, cap, rfl, hcap, hcm⟩ := hB.shape
    have B0 := hide ((Below.refl w.heap.size w).alloc (Nat.le_refl _) (.cells #[.string ⟨#[]⟩, .string ⟨#[]⟩, .int .i64 0, .slice sa 0 cap] 27))
    have HE := hide (fun wx => l07Empty_any ⟨#[]⟩ ⟨#[]⟩ 0 [] sa cap wx (by simp))
    have he : emptyBr (.mk ⟨#[]⟩ ⟨#[]⟩ 0 []) = true := (empty_iff _ _ _ _).2 ⟨rfl, rfl, rfl, rfl⟩
    rw [he] at HE
    simp only [List.length_nil] at HE
    clear he hB
    show Calls _ _ #[.agg #[.string ⟨#[]⟩, .string ⟨#[]⟩, .int .i64 0, .slice sa 0 cap]] w _
    go_enter Tryd.func45, Tryd.ntmps45
    go_wp2_with fail
    generalize w.alloc (.cells #[.string ⟨#[]⟩, .string ⟨#[]⟩, .int .i64 0, .slice sa 0 cap] 27) = w1 at *
    refine (unhide HE w1).mono ?_
    rintro e w2 ⟨rfl, hb2⟩
    have B2 := hide ((unhide B0).trans (hb2.mono (unhide B0).size))
    clear hb2
    go_wp2_with fail
    go_ret
    exact ⟨rfl, unhide B2⟩

theorem boundS {S : Nat → Prop} {w : World} {v : Value} {l : List Br} (h : Brs S w v l) : Brs (fun x => S x ∧ x < w.heap.size) w v l := by
  induction h with
  | nil a cap hc => exact .nil a cap hc
  | row b off cap l kv h0 h1 h2 h3 h4 h5 h6 h7 ih => exact .row b off cap l kv h0 h1 h2 h3 ⟨h4, h3⟩ h5 h6 ih
/-- What is carried on while a map is drawn: the source, the boxes, the map. -/
structure LpI (w : World) (b rb bb : Nat) (a : Option Addr) (cap : Nat) (l : List Int) (M : Int) (n : Nat) (o : Option Tr) (kv : Value) (wr : World) : Prop where
  src : Src wr b a cap l M
  tch : Touch (fun k => k = b) w wr
  rbk : Blk wr rb [.string ⟨#[]⟩, .string ⟨#[]⟩, .int .i64 0, .slice none 0 0]
  bbk : Blk wr bb [.string (brOf o).key, .string (brOf o).val, .int .i64 (brOf o).at_, kv]
  brs : Brs (fun x => bb < x ∧ x < wr.heap.size) wr kv (brOf o).kids
  dr : DrM o
  ki : KIO n o
  lo : b < rb
  lb : rb < bb
  sz : w.heap.size ≤ rb
/-- The source alone was asked. -/
theorem LpI.ask {w : World} {b rb bb : Nat} {a : Option Addr} {cap : Nat} {l : List Int} {M M' : Int} {n : Nat} {o : Option Tr} {kv : Value} {wr wx : World} (h : LpI w b rb bb a cap l M n o kv wr) (hs : Src wx b a cap l M') (ht : Touch (fun k => k = b) wr wx) : LpI w b rb bb a cap l M' n o kv wx :=
  ⟨hs, h.tch.trans ht (fun _ _ e => e), h.rbk.kept ht (by have := h.lo; omega), h.bbk.kept ht (by have := h.lo; have := h.lb; omega), (h.brs.touch ht (fun k hk e => by have := h.lo; have := h.lb; have := hk.1; omega)).mono (fun k hk => ⟨hk.1, Nat.lt_of_lt_of_le hk.2 ht.size⟩), h.dr, h.ki, h.lo, h.lb, h.sz⟩
theorem LpI.bel {w : World} {b rb bb : Nat} {a : Option Addr} {cap : Nat} {l : List Int} {M : Int} {n : Nat} {o : Option Tr} {kv : Value} {wr wx : World} (h : LpI w b rb bb a cap l M n o kv wr) (hb : Below wr.heap.size wr wx) : LpI w b rb bb a cap l M n o kv wx :=
  h.ask (Src.bel h.src hb) (Touch.ofBelow hb)
/-- A key was put, the map stored. -/
theorem LpI.put {w : World} {b rb bb : Nat} {a : Option Addr} {cap : Nat} {l : List Int} {M : Int} {n n' : Nat} {o o' : Option Tr} {kv kv' : Value} {wr wx : World} (h : LpI w b rb bb a cap l M n o kv wr) (hb : Below wr.heap.size wr wx)
    (hB : Brs (fun x => (bb < x ∧ x < wr.heap.size) ∨ wr.heap.size ≤ x) wx kv' (brOf o').kids) (hd : DrM o') (hk : KIO n' o') : LpI w b rb bb a cap l M n' o' kv' (set4 wx bb (.string (brOf o').key) (.string (brOf o').val) (.int .i64 (brOf o').at_) kv') := by
  have h1 := h.bel hb
  have hT := set4_touch wx bb (.string (brOf o').key) (.string (brOf o').val) (.int .i64 (brOf o').at_) kv'
  have hbb := h.bbk.1
  refine ⟨?_, h1.tch.trans hT (fun k hk e => by have := h.sz; have := h.lb; omega), h1.rbk.kept hT (by have := h.lb; omega), set4_blk h1.bbk _ _ _ _, ?_, hd, hk, h.lo, h.lb, h.sz⟩
  · have hs := h1.src
    refine hs.grown (r := some bb) ?_ (fun k e => by cases e; have := h.lo; have := h.lb; omega)
    exact ⟨hT.os, hT.tape, hT.output, hT.size, fun k hk hn => hT.block k hk (fun e => hn (by rw [e]))⟩
  · exact ((boundS hB).touch hT (fun k hk e => by have := hk.1; omega)).mono (fun k hk => ⟨by have := hk.1; omega, Nat.lt_of_lt_of_le hk.2 hT.size⟩)
theorem put_one {o : Option Tr} (h : DrM o) (hlt : lvO o < 40) {j : Nat} (hj : j < 64) {val : ByteArray} (hv : val.size ≤ 60) : DrM (some (mpT o (keyN j) val)) := by
  cases o with
  | none => exact leaf_dr hj hv
  | some t => exact put_dr h hj hv (by have h1 : t.lvN < 40 := hlt; omega)
theorem put_ki {n : Nat} {o : Option Tr} (h : KIO n o) {j : Nat} (hj : j < n) (val : ByteArray) : KIO n (some (mpT o (keyN j) val)) := by
  cases o with
  | none => exact ⟨j, hj, rfl⟩
  | some t => exact KI.put _ _ _ _ ⟨j, hj, rfl⟩ h
theorem KIO.mono {n m : Nat} (h : n ≤ m) {o : Option Tr} (hk : KIO n o) : KIO m o := by
  cases o with
  | none => trivial
  | some t => exact KI.mono h hk
/-- A key that is none of a map's first keys makes it greater by one. -/
theorem put_more {n : Nat} {o : Option Tr} (h : DrM o) (hk : KIO n o) (hn : n < 64) (val : ByteArray) : lvO (some (mpT o (keyN n) val)) = lvO o + 1 := by
  cases o with
  | none => rfl
  | some t =>
    have hat : putAt t (keyN n) ≤ 256 := fd_le _ _
    obtain ⟨i, hi, hli⟩ := KI.lead (kh (keyN n)) (t := t) hk
    have hok := (lead_ok (kh (keyN n)) t h.ok).1
    have h32 := kh_size (k := (leadL (kh (keyN n)) t).1) (by have := (okK_iff.1 hok).2; omega)
    have hks := kh_size (k := keyN n) (by have := (okK_iff.1 (keys_ok ⟨n, hn⟩)).2; dsimp only at this; omega)
    have hlt : putAt t (keyN n) < 256 := by
      refine (fd_ne h32 hks).2 (fun eq => ?_)
      rw [hli] at eq
      have e1 := kh_inj (keyN_mem (by omega)) (keyN_mem hn) eq
      have e2 := keyN_inj ⟨i, by omega⟩ ⟨n, hn⟩ e1
      have e3 : i = n := congrArg Fin.val e2
      omega
    show (putT (kh (keyN n)) (putAt t (keyN n)) (keyN n) val t).lvN = t.lvN + 1
    rw [putT_lvN _ _ _ _ hat t h.ok, if_pos hlt]

set_option maxHeartbeats 8000000 in
theorem drawBranch_any (w : World) (b : Nat) (a : Option Addr) (cap : Nat) (l : List Int) (M : Int) (h : Src w b a cap l M) (hM : M ≤ 1000) :
    Calls Tryd.prog 42 #[.pointer (some ⟨b, 0, none⟩)] w fun e w' => ∃ o sa n c, DrM o ∧ e = .returned (.agg #[.string (brOf o).key, .string (brOf o).val, .int .i64 (brOf o).at_, .slice sa n c]) ∧ Brs (fun x => w.heap.size ≤ x) w' (.slice sa n c) (brOf o).kids ∧ Touch (fun k => k = b) w w' := by
  have hbl := h.lt
  have I0 : Hid (LpI w b w.heap.size (w.heap.size + 1) a cap l M 24 none (.slice none 0 0) ((w.alloc (.cells #[.string ⟨#[]⟩, .string ⟨#[]⟩, .int .i64 0, .slice none 0 0] 27)).alloc (.cells #[.string ⟨#[]⟩, .string ⟨#[]⟩, .int .i64 0, .slice none 0 0] 27))) := hide
    ⟨(h.alloc _).alloc _, ((Touch.refl _ w).alloc _).alloc _, (Blk.new w #[.string ⟨#[]⟩, .string ⟨#[]⟩, .int .i64 0, .slice none 0 0] 27 w.heap.size rfl).alloc _, Blk.new _ #[.string ⟨#[]⟩, .string ⟨#[]⟩, .int .i64 0, .slice none 0 0] 27 (w.heap.size + 1) (by simp), .nil _ _ (by unfold maxLen; omega), ⟨trivial, trivial, trivial, Nat.zero_le _, trivial⟩, trivial, hbl, by omega, Nat.le_refl _⟩
  clear h
  go_enter Tryd.func42, Tryd.ntmps42
  go_wp2_with fail
  generalize (w.alloc (.cells #[.string ⟨#[]⟩, .string ⟨#[]⟩, .int .i64 0, .slice none 0 0] 27)).alloc (.cells #[.string ⟨#[]⟩, .string ⟨#[]⟩, .int .i64 0, .slice none 0 0] 27) = w0 at *
  refine (srcSizeN_any 12 (by omega) w0 b a cap l M (unhide I0).src (by omega)).mono ?_
  rintro e w1 ⟨n, rfl, hn1, hn2, rfl⟩
  have q1 : IntKind.i64.wrap (n + 3) = n + 3 := wrapS _ (by omega) (by omega)
  go_wp2_with fail
  refine (srcNext_any (n + 3) w1 b a cap l M (unhide I0).src (by omega) (by omega) (by omega)).mono ?_
  rintro e w2 ⟨x, rfl, hx0, hx1, hS, hO⟩
  obtain ⟨i0, rfl⟩ : ∃ i : Nat, x = (i : Int) := ⟨x.toNat, by omega⟩
  have hi0 : i0 ≤ 15 := by omega
  have I1 := hide ((unhide I0).ask hS hO.touch)
  clear hS hO I0 q1 hx0 hx1 hn1 hn2
  go_upto_block 0 with fail
  go_cut [4] (fun s wx => ∃ o kv M', M' ≤ M + 200 ∧ Hid (LpI w b w.heap.size (w.heap.size + 1) a cap l M' 24 o kv wx))
  case first =>
    go_wp2_with fail
    go_loopw [4] (fun iv wr => ∃ (i : Nat) (o : Option Tr) (kv : Value) (M' : Int), iv = .int .i64 (i : Int) ∧ i ≤ 15 ∧ M' ≤ M + 3 + 9 * (15 - (i : Int)) ∧ Hid (LpI w b w.heap.size (w.heap.size + 1) a cap l M' 24 o kv wr)) (fun iv _ => (intOf iv).toNat)
    case atStart => exact ⟨i0, none, _, _, rfl, hi0, by omega, I1⟩
    case round =>
      obtain ⟨i, o, kv, M', rfl, hi, hM', HI⟩ := hrel
      by_cases h0 : i = 0
      · subst h0
        go_wp2_with fail
        go_meet
        exact ⟨o, kv, M', by omega, HI⟩
      have hi1 : (0 : Int) < (i : Int) := by omega
      have x0 := (unhide HI).bbk.cell 0 rfl
      have x1 := (unhide HI).bbk.cell 1 rfl
      have x2 := (unhide HI).bbk.cell 2 rfl
      have x3 := (unhide HI).bbk.cell 3 rfl
      go_wp2_with fail
      refine (sizeO_spec o (unhide HI).dr _ kv wr (unhide HI).brs).mono ?_
      rintro e w3 ⟨rfl, hb⟩
      have I3 := hide ((unhide HI).bel hb)
      clear hb HI x0 x1 x2 x3
      by_cases h40 : lvO o < 40
      · have h40' : ((lvO o : Nat) : Int) < 40 := by omega
        go_upto_region 5 with fail
        have q2 : IntKind.i64.wrap ((i : Int) - 1) = (i : Int) - 1 := wrapS _ (by omega) (by omega)
        clear h40'
        refine wp_region_noPanic ?_
        refine wp_region_held_drew (S := (fun _ => True)) (by kernel_rfl) ?_ (fun hHeld => ?_)
        · exact trivial
        have I1 := hide ((unhide I3).bel (show Below w3.heap.size w3 w3.drew from below_drewN (Below.refl _ w3) 1))
        generalize w3.drew = wd at *
        refine tkH 1 rfl ?_
        refine tkH 3 rfl ?_
        refine wpAnyH_ready (rs := [0, 2]) (by kernel_rfl) (by simp) ?_
        refine AllReadyH.cons (o := _) rfl (fun K hK => ?_) (AllReadyH.cons (o := _) rfl (fun K hK => ?_) AllReadyH.nil)
        · skip
          have x2_0 := (unhide I1).bbk.cell 0 rfl
          have x2_1 := (unhide I1).bbk.cell 1 rfl
          have x2_2 := (unhide I1).bbk.cell 2 rfl
          have x2_3 := (unhide I1).bbk.cell 3 rfl
          go_simp
          refine hK.out _ _ trivial (fun hHeld => ?_)
          clear hK K
          (try simp only [Act.put, List.getElem_toArray, List.getElem_cons_succ, List.getElem_cons_zero, List.setIfInBounds_toArray, List.set_cons_zero, List.set_cons_succ])
          clear x2_0 x2_1 x2_2 x2_3
          refine wpAnyH_ready (rs := [2]) (by kernel_rfl) (by simp) ?_
          refine AllReadyH.cons (o := _) rfl (fun K hK => ?_) AllReadyH.nil
          go_simp
          refine (mapKey_any _ b a cap l _ (unhide I1).src (by omega)).mono ?_
          rintro e v4 ⟨j, hj, rfl, hS, hT⟩
          have I3 := hide ((unhide I1).ask hS hT)
          clear hS hT
          go_wp2_with fail
          refine hK.out _ _ trivial (fun hHeld => ?_)
          clear hK K
          (try simp only [Act.put, List.getElem_toArray, List.getElem_cons_succ, List.getElem_cons_zero, List.setIfInBounds_toArray, List.set_cons_zero, List.set_cons_succ])
          refine wpAnyH_ready (rs := [4]) (by kernel_rfl) (by simp) ?_
          refine AllReadyH.cons (o := _) rfl (fun K hK => ?_) AllReadyH.nil
          go_simp
          refine (datumM_any _ b a cap l _ (unhide I3).src (by omega)).mono ?_
          rintro e v6 ⟨s, rfl, hs, hS, hT⟩
          have I5 := hide ((unhide I3).ask hS hT)
          clear hS hT
          go_wp2_with fail
          refine hK.out _ _ trivial (fun hHeld => ?_)
          clear hK K
          (try simp only [Act.put, List.getElem_toArray, List.getElem_cons_succ, List.getElem_cons_zero, List.setIfInBounds_toArray, List.set_cons_zero, List.set_cons_succ])
          refine wpAnyH_ready (rs := [5]) (by kernel_rfl) (by simp) ?_
          refine AllReadyH.cons (o := _) rfl (fun K hK => ?_) AllReadyH.nil
          go_simp
          have hsz := (unhide I5).bbk.1
          refine (l07Put_any o (unhide I5).dr.ok (unhide I5).dr.ri (unhide I5).dr.sp (keyN j) s ⟨keys_ok ⟨j, by omega⟩, hs⟩ _ kv _ (fun x hx => hx.2) (unhide I5).brs).mono ?_
          rintro e p7 ⟨sa', n', c', rfl, hB', hb'⟩
          have I8 := hide ((unhide I5).bel hb')
          have R9 := hide (LpI.put (unhide I5) hb' (o' := some (mpT o (keyN j) s)) hB' (put_one (unhide I5).dr h40 (by omega) hs) (put_ki (unhide I5).ki hj s))
          clear hB' hb'
          go_wp2_with fail
          refine hK.out _ _ trivial (fun hHeld => ?_)
          clear hK K
          (try simp only [Act.put, List.getElem_toArray, List.getElem_cons_succ, List.getElem_cons_zero, List.setIfInBounds_toArray, List.set_cons_zero, List.set_cons_succ])
          refine wpAnyH_ready (rs := [6]) (by kernel_rfl) (by simp) ?_
          refine AllReadyH.cons (o := _) rfl (fun K hK => ?_) AllReadyH.nil
          have r10_0 := (unhide I8).bbk.cell 0 rfl
          have r10f0 := (unhide I8).bbk.fro 0
          have r10_1 := (unhide I8).bbk.cell 1 rfl
          have r10f1 := (unhide I8).bbk.fro 1
          have r10_2 := (unhide I8).bbk.cell 2 rfl
          have r10f2 := (unhide I8).bbk.fro 2
          have r10_3 := (unhide I8).bbk.cell 3 rfl
          have r10f3 := (unhide I8).bbk.fro 3
          go_simp
          refine hK.out _ _ trivial (fun hHeld => ?_)
          clear hK K
          (try simp only [Act.put, List.getElem_toArray, List.getElem_cons_succ, List.getElem_cons_zero, List.setIfInBounds_toArray, List.set_cons_zero, List.set_cons_succ])
          refine wpAnyH_done (by kernel_rfl) (NoPanic.normal ?_) _
          clear hHeld
          go_wp2_with fail
          refine ⟨⟨i - 1, _, _, _, congrArg (Value.int .i64) (by omega), by omega, ?_, R9⟩, ?_⟩
          · omega
          · simp [intOf]; omega
        · skip
          go_simp
          refine (mapKey_any _ b a cap l _ (unhide I1).src (by omega)).mono ?_
          rintro e v12 ⟨j, hj, rfl, hS, hT⟩
          have I11 := hide ((unhide I1).ask hS hT)
          clear hS hT
          go_wp2_with fail
          refine hK.out _ _ trivial (fun hHeld => ?_)
          clear hK K
          (try simp only [Act.put, List.getElem_toArray, List.getElem_cons_succ, List.getElem_cons_zero, List.setIfInBounds_toArray, List.set_cons_zero, List.set_cons_succ])
          refine wpAnyH_ready (rs := [0, 4]) (by kernel_rfl) (by simp) ?_
          refine AllReadyH.cons (o := _) rfl (fun K hK => ?_) (AllReadyH.cons (o := _) rfl (fun K hK => ?_) AllReadyH.nil)
          · skip
            have x13_0 := (unhide I11).bbk.cell 0 rfl
            have x13_1 := (unhide I11).bbk.cell 1 rfl
            have x13_2 := (unhide I11).bbk.cell 2 rfl
            have x13_3 := (unhide I11).bbk.cell 3 rfl
            go_simp
            refine hK.out _ _ trivial (fun hHeld => ?_)
            clear hK K
            (try simp only [Act.put, List.getElem_toArray, List.getElem_cons_succ, List.getElem_cons_zero, List.setIfInBounds_toArray, List.set_cons_zero, List.set_cons_succ])
            clear x13_0 x13_1 x13_2 x13_3
            refine wpAnyH_ready (rs := [4]) (by kernel_rfl) (by simp) ?_
            refine AllReadyH.cons (o := _) rfl (fun K hK => ?_) AllReadyH.nil
            go_simp
            refine (datumM_any _ b a cap l _ (unhide I11).src (by omega)).mono ?_
            rintro e v15 ⟨s, rfl, hs, hS, hT⟩
            have I14 := hide ((unhide I11).ask hS hT)
            clear hS hT
            go_wp2_with fail
            refine hK.out _ _ trivial (fun hHeld => ?_)
            clear hK K
            (try simp only [Act.put, List.getElem_toArray, List.getElem_cons_succ, List.getElem_cons_zero, List.setIfInBounds_toArray, List.set_cons_zero, List.set_cons_succ])
            refine wpAnyH_ready (rs := [5]) (by kernel_rfl) (by simp) ?_
            refine AllReadyH.cons (o := _) rfl (fun K hK => ?_) AllReadyH.nil
            go_simp
            have hsz := (unhide I14).bbk.1
            refine (l07Put_any o (unhide I14).dr.ok (unhide I14).dr.ri (unhide I14).dr.sp (keyN j) s ⟨keys_ok ⟨j, by omega⟩, hs⟩ _ kv _ (fun x hx => hx.2) (unhide I14).brs).mono ?_
            rintro e p16 ⟨sa', n', c', rfl, hB', hb'⟩
            have I17 := hide ((unhide I14).bel hb')
            have R18 := hide (LpI.put (unhide I14) hb' (o' := some (mpT o (keyN j) s)) hB' (put_one (unhide I14).dr h40 (by omega) hs) (put_ki (unhide I14).ki hj s))
            clear hB' hb'
            go_wp2_with fail
            refine hK.out _ _ trivial (fun hHeld => ?_)
            clear hK K
            (try simp only [Act.put, List.getElem_toArray, List.getElem_cons_succ, List.getElem_cons_zero, List.setIfInBounds_toArray, List.set_cons_zero, List.set_cons_succ])
            refine wpAnyH_ready (rs := [6]) (by kernel_rfl) (by simp) ?_
            refine AllReadyH.cons (o := _) rfl (fun K hK => ?_) AllReadyH.nil
            have r19_0 := (unhide I17).bbk.cell 0 rfl
            have r19f0 := (unhide I17).bbk.fro 0
            have r19_1 := (unhide I17).bbk.cell 1 rfl
            have r19f1 := (unhide I17).bbk.fro 1
            have r19_2 := (unhide I17).bbk.cell 2 rfl
            have r19f2 := (unhide I17).bbk.fro 2
            have r19_3 := (unhide I17).bbk.cell 3 rfl
            have r19f3 := (unhide I17).bbk.fro 3
            go_simp
            refine hK.out _ _ trivial (fun hHeld => ?_)
            clear hK K
            (try simp only [Act.put, List.getElem_toArray, List.getElem_cons_succ, List.getElem_cons_zero, List.setIfInBounds_toArray, List.set_cons_zero, List.set_cons_succ])
            refine wpAnyH_done (by kernel_rfl) (NoPanic.normal ?_) _
            clear hHeld
            go_wp2_with fail
            refine ⟨⟨i - 1, _, _, _, congrArg (Value.int .i64) (by omega), by omega, ?_, R18⟩, ?_⟩
            · omega
            · simp [intOf]; omega
          · skip
            go_simp
            refine (datumM_any _ b a cap l _ (unhide I11).src (by omega)).mono ?_
            rintro e v21 ⟨s, rfl, hs, hS, hT⟩
            have I20 := hide ((unhide I11).ask hS hT)
            clear hS hT
            go_wp2_with fail
            refine hK.out _ _ trivial (fun hHeld => ?_)
            clear hK K
            (try simp only [Act.put, List.getElem_toArray, List.getElem_cons_succ, List.getElem_cons_zero, List.setIfInBounds_toArray, List.set_cons_zero, List.set_cons_succ])
            refine wpAnyH_ready (rs := [0]) (by kernel_rfl) (by simp) ?_
            refine AllReadyH.cons (o := _) rfl (fun K hK => ?_) AllReadyH.nil
            have x22_0 := (unhide I20).bbk.cell 0 rfl
            have x22_1 := (unhide I20).bbk.cell 1 rfl
            have x22_2 := (unhide I20).bbk.cell 2 rfl
            have x22_3 := (unhide I20).bbk.cell 3 rfl
            go_simp
            refine hK.out _ _ trivial (fun hHeld => ?_)
            clear hK K
            (try simp only [Act.put, List.getElem_toArray, List.getElem_cons_succ, List.getElem_cons_zero, List.setIfInBounds_toArray, List.set_cons_zero, List.set_cons_succ])
            clear x22_0 x22_1 x22_2 x22_3
            refine wpAnyH_ready (rs := [5]) (by kernel_rfl) (by simp) ?_
            refine AllReadyH.cons (o := _) rfl (fun K hK => ?_) AllReadyH.nil
            go_simp
            have hsz := (unhide I20).bbk.1
            refine (l07Put_any o (unhide I20).dr.ok (unhide I20).dr.ri (unhide I20).dr.sp (keyN j) s ⟨keys_ok ⟨j, by omega⟩, hs⟩ _ kv _ (fun x hx => hx.2) (unhide I20).brs).mono ?_
            rintro e p23 ⟨sa', n', c', rfl, hB', hb'⟩
            have I24 := hide ((unhide I20).bel hb')
            have R25 := hide (LpI.put (unhide I20) hb' (o' := some (mpT o (keyN j) s)) hB' (put_one (unhide I20).dr h40 (by omega) hs) (put_ki (unhide I20).ki hj s))
            clear hB' hb'
            go_wp2_with fail
            refine hK.out _ _ trivial (fun hHeld => ?_)
            clear hK K
            (try simp only [Act.put, List.getElem_toArray, List.getElem_cons_succ, List.getElem_cons_zero, List.setIfInBounds_toArray, List.set_cons_zero, List.set_cons_succ])
            refine wpAnyH_ready (rs := [6]) (by kernel_rfl) (by simp) ?_
            refine AllReadyH.cons (o := _) rfl (fun K hK => ?_) AllReadyH.nil
            have r26_0 := (unhide I24).bbk.cell 0 rfl
            have r26f0 := (unhide I24).bbk.fro 0
            have r26_1 := (unhide I24).bbk.cell 1 rfl
            have r26f1 := (unhide I24).bbk.fro 1
            have r26_2 := (unhide I24).bbk.cell 2 rfl
            have r26f2 := (unhide I24).bbk.fro 2
            have r26_3 := (unhide I24).bbk.cell 3 rfl
            have r26f3 := (unhide I24).bbk.fro 3
            go_simp
            refine hK.out _ _ trivial (fun hHeld => ?_)
            clear hK K
            (try simp only [Act.put, List.getElem_toArray, List.getElem_cons_succ, List.getElem_cons_zero, List.setIfInBounds_toArray, List.set_cons_zero, List.set_cons_succ])
            refine wpAnyH_done (by kernel_rfl) (NoPanic.normal ?_) _
            clear hHeld
            go_wp2_with fail
            refine ⟨⟨i - 1, _, _, _, congrArg (Value.int .i64) (by omega), by omega, ?_, R25⟩, ?_⟩
            · omega
            · simp [intOf]; omega
      · have h40' : ¬ ((lvO o : Nat) : Int) < 40 := by omega
        go_wp2_with fail
        go_meet
        exact ⟨o, kv, M', by omega, I3⟩
  case rest =>
    obtain ⟨o, kv, M', hM', HI⟩ := hcut
    go_wp2_with fail
    refine (chance_any 40 wc b a cap l M' (unhide HI).src (by omega) (by omega) (by omega)).mono ?_
    rintro e w2 ⟨q, rfl, hS, hO⟩
    have I2 := hide ((unhide HI).ask hS hO.touch)
    clear hS hO HI
    go_upto_if 28 with fail
    go_cut [] (fun wx => ∃ o kv n', Hid (LpI w b w.heap.size (w.heap.size + 1) a cap l (M' + 3) n' o kv wx))
    case first =>
      cases q
      · go_wp2_with fail
        go_meet
        exact ⟨o, kv, _, I2⟩
      · go_wp2_with fail
        go_loopw [5] (fun iv wr => ∃ (i : Nat) (o : Option Tr) (kv : Value), iv = .int .i64 (i : Int) ∧ i ≤ 40 ∧ i ≤ lvO o ∧ Hid (LpI w b w.heap.size (w.heap.size + 1) a cap l (M' + 3) (24 + i) o kv wr)) (fun iv _ => 40 - (intOf iv).toNat)
        case atStart => exact ⟨0, o, kv, rfl, by omega, Nat.zero_le _, I2⟩
        case round =>
          clear I2
          obtain ⟨i, o, kv, rfl, hi, hil, HI⟩ := hrel
          have x0 := (unhide HI).bbk.cell 0 rfl
          have x1 := (unhide HI).bbk.cell 1 rfl
          have x2 := (unhide HI).bbk.cell 2 rfl
          have x3 := (unhide HI).bbk.cell 3 rfl
          go_wp2_with fail
          refine (sizeO_spec o (unhide HI).dr _ kv wr (unhide HI).brs).mono ?_
          rintro e w5 ⟨rfl, hb⟩
          have I5 := hide ((unhide HI).bel hb)
          clear hb x0 x1 x2 x3
          have HI0 := HI
          clear HI
          by_cases h40 : lvO o < 40
          · have h40' : ((lvO o : Nat) : Int) < 40 := by omega
            go_upto_region 10 with fail
            clear h40'
            have HKD := hide (kdig ⟨i, by omega⟩)
            have HDG := hide (fun wx => l00Digits_any i (by omega) wx)
            have hdz := dig_size ⟨i, by omega⟩
            dsimp only at HKD hdz
            generalize digT i = dg at *
            have hz : (⟨#[107]⟩ : ByteArray).size + dg.size ≤ 3 := by show 1 + dg.size ≤ 3; omega
            have hz2 : ¬ 9223372036854775807 < 1 + dg.size := by omega
            refine wp_region_noPanic ?_
            refine wp_region_held_drew (S := (fun _ => True)) (by kernel_rfl) ?_ (fun hHeld => ?_)
            · exact trivial
            have I27 := hide ((unhide I5).bel (show Below w5.heap.size w5 w5.drew from below_drewN (Below.refl _ w5) 1))
            generalize w5.drew = wd at *
            refine tkH 1 rfl ?_
            refine wpAnyH_ready (rs := [0, 2]) (by kernel_rfl) (by simp) ?_
            refine AllReadyH.cons (o := _) rfl (fun K hK => ?_) (AllReadyH.cons (o := _) rfl (fun K hK => ?_) AllReadyH.nil)
            · skip
              have x28_0 := (unhide I27).bbk.cell 0 rfl
              have x28_1 := (unhide I27).bbk.cell 1 rfl
              have x28_2 := (unhide I27).bbk.cell 2 rfl
              have x28_3 := (unhide I27).bbk.cell 3 rfl
              go_simp
              refine hK.out _ _ trivial (fun hHeld => ?_)
              clear hK K
              (try simp only [Act.put, List.getElem_toArray, List.getElem_cons_succ, List.getElem_cons_zero, List.setIfInBounds_toArray, List.set_cons_zero, List.set_cons_succ])
              clear x28_0 x28_1 x28_2 x28_3
              refine wpAnyH_ready (rs := [2]) (by kernel_rfl) (by simp) ?_
              refine AllReadyH.cons (o := _) rfl (fun K hK => ?_) AllReadyH.nil
              go_simp
              refine (unhide HDG _).mono ?_
              rintro e v30 ⟨rfl, hb⟩
              have I29 := hide ((unhide I27).bel hb)
              clear hb
              go_wp2_with fail
              refine hK.out _ _ trivial (fun hHeld => ?_)
              clear hK K
              (try simp only [Act.put, List.getElem_toArray, List.getElem_cons_succ, List.getElem_cons_zero, List.setIfInBounds_toArray, List.set_cons_zero, List.set_cons_succ])
              refine tkH 3 rfl ?_
              refine wpAnyH_ready (rs := [4]) (by kernel_rfl) (by simp) ?_
              refine AllReadyH.cons (o := _) rfl (fun K hK => ?_) AllReadyH.nil
              go_simp
              rw [unhide HKD]
              have hsz := (unhide I29).bbk.1
              refine (l07Put_any o (unhide I29).dr.ok (unhide I29).dr.ri (unhide I29).dr.sp (keyN (24 + i)) ⟨#[118]⟩ ⟨keys_ok ⟨24 + i, by omega⟩, (by decide)⟩ _ kv _ (fun x hx => hx.2) (unhide I29).brs).mono ?_
              rintro e p31 ⟨sa', n', c', rfl, hB', hb'⟩
              have I32 := hide ((unhide I29).bel hb')
              have R33 := hide (LpI.put (unhide I29) hb' (o' := some (mpT o (keyN (24 + i)) ⟨#[118]⟩)) hB' (put_one (unhide I29).dr h40 (by omega) (by decide)) (put_ki (KIO.mono (show 24 + i ≤ 24 + (i + 1) by omega) (unhide I29).ki) (by omega) _))
              clear hB' hb'
              go_wp2_with fail
              refine hK.out _ _ trivial (fun hHeld => ?_)
              clear hK K
              (try simp only [Act.put, List.getElem_toArray, List.getElem_cons_succ, List.getElem_cons_zero, List.setIfInBounds_toArray, List.set_cons_zero, List.set_cons_succ])
              refine wpAnyH_ready (rs := [5]) (by kernel_rfl) (by simp) ?_
              refine AllReadyH.cons (o := _) rfl (fun K hK => ?_) AllReadyH.nil
              have r34_0 := (unhide I32).bbk.cell 0 rfl
              have r34f0 := (unhide I32).bbk.fro 0
              have r34_1 := (unhide I32).bbk.cell 1 rfl
              have r34f1 := (unhide I32).bbk.fro 1
              have r34_2 := (unhide I32).bbk.cell 2 rfl
              have r34f2 := (unhide I32).bbk.fro 2
              have r34_3 := (unhide I32).bbk.cell 3 rfl
              have r34f3 := (unhide I32).bbk.fro 3
              go_simp
              refine hK.out _ _ trivial (fun hHeld => ?_)
              clear hK K
              (try simp only [Act.put, List.getElem_toArray, List.getElem_cons_succ, List.getElem_cons_zero, List.setIfInBounds_toArray, List.set_cons_zero, List.set_cons_succ])
              refine wpAnyH_done (by kernel_rfl) (NoPanic.normal ?_) _
              clear hHeld
              go_wp2_with fail
              refine ⟨⟨i + 1, _, _, by go_num, by omega, ?_, R33⟩, ?_⟩
              · rw [put_more (unhide HI0).dr (unhide HI0).ki (by omega)]; omega
              · simp [intOf]; omega
            · skip
              go_simp
              refine (unhide HDG _).mono ?_
              rintro e v36 ⟨rfl, hb⟩
              have I35 := hide ((unhide I27).bel hb)
              clear hb
              go_wp2_with fail
              refine hK.out _ _ trivial (fun hHeld => ?_)
              clear hK K
              (try simp only [Act.put, List.getElem_toArray, List.getElem_cons_succ, List.getElem_cons_zero, List.setIfInBounds_toArray, List.set_cons_zero, List.set_cons_succ])
              refine tkH 3 rfl ?_
              refine wpAnyH_ready (rs := [0]) (by kernel_rfl) (by simp) ?_
              refine AllReadyH.cons (o := _) rfl (fun K hK => ?_) AllReadyH.nil
              have x37_0 := (unhide I35).bbk.cell 0 rfl
              have x37_1 := (unhide I35).bbk.cell 1 rfl
              have x37_2 := (unhide I35).bbk.cell 2 rfl
              have x37_3 := (unhide I35).bbk.cell 3 rfl
              go_simp
              refine hK.out _ _ trivial (fun hHeld => ?_)
              clear hK K
              (try simp only [Act.put, List.getElem_toArray, List.getElem_cons_succ, List.getElem_cons_zero, List.setIfInBounds_toArray, List.set_cons_zero, List.set_cons_succ])
              clear x37_0 x37_1 x37_2 x37_3
              refine wpAnyH_ready (rs := [4]) (by kernel_rfl) (by simp) ?_
              refine AllReadyH.cons (o := _) rfl (fun K hK => ?_) AllReadyH.nil
              go_simp
              rw [unhide HKD]
              have hsz := (unhide I35).bbk.1
              refine (l07Put_any o (unhide I35).dr.ok (unhide I35).dr.ri (unhide I35).dr.sp (keyN (24 + i)) ⟨#[118]⟩ ⟨keys_ok ⟨24 + i, by omega⟩, (by decide)⟩ _ kv _ (fun x hx => hx.2) (unhide I35).brs).mono ?_
              rintro e p38 ⟨sa', n', c', rfl, hB', hb'⟩
              have I39 := hide ((unhide I35).bel hb')
              have R40 := hide (LpI.put (unhide I35) hb' (o' := some (mpT o (keyN (24 + i)) ⟨#[118]⟩)) hB' (put_one (unhide I35).dr h40 (by omega) (by decide)) (put_ki (KIO.mono (show 24 + i ≤ 24 + (i + 1) by omega) (unhide I35).ki) (by omega) _))
              clear hB' hb'
              go_wp2_with fail
              refine hK.out _ _ trivial (fun hHeld => ?_)
              clear hK K
              (try simp only [Act.put, List.getElem_toArray, List.getElem_cons_succ, List.getElem_cons_zero, List.setIfInBounds_toArray, List.set_cons_zero, List.set_cons_succ])
              refine wpAnyH_ready (rs := [5]) (by kernel_rfl) (by simp) ?_
              refine AllReadyH.cons (o := _) rfl (fun K hK => ?_) AllReadyH.nil
              have r41_0 := (unhide I39).bbk.cell 0 rfl
              have r41f0 := (unhide I39).bbk.fro 0
              have r41_1 := (unhide I39).bbk.cell 1 rfl
              have r41f1 := (unhide I39).bbk.fro 1
              have r41_2 := (unhide I39).bbk.cell 2 rfl
              have r41f2 := (unhide I39).bbk.fro 2
              have r41_3 := (unhide I39).bbk.cell 3 rfl
              have r41f3 := (unhide I39).bbk.fro 3
              go_simp
              refine hK.out _ _ trivial (fun hHeld => ?_)
              clear hK K
              (try simp only [Act.put, List.getElem_toArray, List.getElem_cons_succ, List.getElem_cons_zero, List.setIfInBounds_toArray, List.set_cons_zero, List.set_cons_succ])
              refine wpAnyH_done (by kernel_rfl) (NoPanic.normal ?_) _
              clear hHeld
              go_wp2_with fail
              refine ⟨⟨i + 1, _, _, by go_num, by omega, ?_, R40⟩, ?_⟩
              · rw [put_more (unhide HI0).dr (unhide HI0).ki (by omega)]; omega
              · simp [intOf]; omega
          · have h40' : ¬ ((lvO o : Nat) : Int) < 40 := by omega
            go_wp2_with fail
            go_meet
            exact ⟨o, kv, _, I5⟩
    case rest =>
      clear I2
      obtain ⟨o, kv, n', HI⟩ := hcut
      have hcn : cntL (brOf o).kids ≤ 1048576 := by
        cases o with
        | none => exact Nat.zero_le _
        | some t => have h1 := tr_cntL t; have h2 : t.lvN ≤ 40 := (unhide HI).dr.sz; show cntL t.toBr.kids ≤ _; omega
      have x0 := (unhide HI).bbk.cell 0 rfl
      have x1 := (unhide HI).bbk.cell 1 rfl
      have x2 := (unhide HI).bbk.cell 2 rfl
      have x3 := (unhide HI).bbk.cell 3 rfl
      go_wp2_with fail
      refine (l07Own_any (unhide HI).brs (brOf o).key (brOf o).val (brOf o).at_ _ hcn (Below.refl _ _)).mono ?_
      rintro e w9 ⟨sa, n, c, rfl, hBO, hb⟩
      have I9 := hide ((unhide HI).bel hb)
      have hsz := (unhide HI).rbk.1
      have hrs := (unhide HI).sz
      have RF := hide (set4_blk (unhide I9).rbk (.string (brOf o).key) (.string (brOf o).val) (.int .i64 (brOf o).at_) (.slice sa n c))
      have TF := set4_touch w9 w.heap.size (.string (brOf o).key) (.string (brOf o).val) (.int .i64 (brOf o).at_) (.slice sa n c)
      have BF := hide (show Brs (fun x => w.heap.size ≤ x) (set4 w9 w.heap.size (.string (brOf o).key) (.string (brOf o).val) (.int .i64 (brOf o).at_) (.slice sa n c)) (.slice sa n c) (brOf o).kids from (hBO.brs.touch TF (fun k hk e => by have := hk.1; omega)).mono (fun k hk => by have := hk.1; omega))
      have TT := hide ((unhide I9).tch.trans TF (fun k hk e => by omega))
      have DD := hide (unhide HI).dr
      have r0 := (unhide I9).rbk.cell 0 rfl
      have r1 := (unhide I9).rbk.cell 1 rfl
      have r2 := (unhide I9).rbk.cell 2 rfl
      have r3 := (unhide I9).rbk.cell 3 rfl
      have f0 := (unhide I9).rbk.fro 0
      have f1 := (unhide I9).rbk.fro 1
      have f2 := (unhide I9).rbk.fro 2
      have f3 := (unhide I9).rbk.fro 3
      clear hBO hb TF HI I9 x0 x1 x2 x3
      go_wp2_with fail
      change bodyPost _ _ _ _ _ (set4 w9 w.heap.size (.string (brOf o).key) (.string (brOf o).val) (.int .i64 (brOf o).at_) (.slice sa n c))
      generalize set4 w9 w.heap.size (.string (brOf o).key) (.string (brOf o).val) (.int .i64 (brOf o).at_) (.slice sa n c) = w10 at *
      have z0 := (unhide RF).cell 0 rfl
      have z1 := (unhide RF).cell 1 rfl
      have z2 := (unhide RF).cell 2 rfl
      have z3 := (unhide RF).cell 3 rfl
      refine bodyPost_ret (v := .agg #[.string (brOf o).key, .string (brOf o).val, .int .i64 (brOf o).at_, .slice sa n c]) (by simp [results, Tryd.results42, go_sem, z0, z1, z2, z3]) rfl ?_
      exact ⟨o, sa, n, c, unhide DD, rfl, unhide BF, unhide TT⟩
end Go.Proofs.YtkcpdjeemdlgcaaDoor.Sha
namespace Go.Proofs.YtkcpdjeemdlgcaaDoor.Sha
open Go.ChangeShapes Go.WideShapes Go.ChangeAt Go.RowKit
set_option linter.unusedVariables false
set_option linter.unusedSimpArgs false
set_option maxRecDepth 100000

set_option maxHeartbeats 2000000 in
theorem mapOf_any (a : Option Addr) (cap : Nat) (l : List Int) (w : World) (h : Bytes w (.slice a l.length cap) l) (hl : l.length ≤ 2097152) :
    Calls Tryd.prog 15 #[.slice a l.length cap] w fun e w' => ∃ o sa n c, DrM o ∧ e = .returned (.agg #[.string (brOf o).key, .string (brOf o).val, .int .i64 (brOf o).at_, .slice sa n c]) ∧ Brs (fun _ => True) w' (.slice sa n c) (brOf o).kids ∧ Below w.heap.size w w' := by
  have K0 := hide ((Below.refl w.heap.size w).alloc (Nat.le_refl _) (.cells #[.string ⟨#[]⟩, .string ⟨#[]⟩, .int .i64 0, .slice none 0 0] 27))
  have R0 := hide (Blk.new w #[.string ⟨#[]⟩, .string ⟨#[]⟩, .int .i64 0, .slice none 0 0] 27 w.heap.size rfl)
  have HS := hide (l00Source_any a cap l _ (h.below (unhide K0)) hl)
  clear h
  go_enter Tryd.func15, Tryd.ntmps15
  go_wp2_with fail
  generalize w.alloc (.cells #[.string ⟨#[]⟩, .string ⟨#[]⟩, .int .i64 0, .slice none 0 0] 27) = w0 at *
  refine (unhide HS).mono ?_
  rintro e w1 ⟨rfl, hS, hb⟩
  have hs1 := hS.lt
  have hr0 := (unhide R0).1
  have K1 := hide ((unhide K0).trans (hb.mono (unhide K0).size))
  have R1 := hide ((unhide R0).below hb)
  have HC := hide (drawBranch_any w1 w0.heap.size a cap l 0 hS (by omega))
  clear hS hb HS K0 R0
  go_wp2_with fail
  refine (unhide HC).mono ?_
  rintro e w2 ⟨o, sa, n, c, hD, rfl, hB, hT⟩
  have K2 := hide ((unhide K1).trans (hT.below (Nat.le_trans (Nat.le_of_lt hr0) (Nat.le_of_lt hs1)) (fun k hk e => by (try dsimp only at e); omega)))
  have R2 := hide ((unhide R1).kept hT (by omega))
  have RF := hide (set4_blk (unhide R2) (.string (brOf o).key) (.string (brOf o).val) (.int .i64 (brOf o).at_) (.slice sa n c))
  have TF := set4_touch w2 w.heap.size (.string (brOf o).key) (.string (brOf o).val) (.int .i64 (brOf o).at_) (.slice sa n c)
  have BF := hide (show Brs (fun _ => True) (set4 w2 w.heap.size (.string (brOf o).key) (.string (brOf o).val) (.int .i64 (brOf o).at_) (.slice sa n c)) (.slice sa n c) (brOf o).kids from (hB.touch TF (fun k hk e => by omega)).mono (fun _ _ => trivial))
  have KF := hide ((unhide K2).trans (TF.below (unhide K2).size (fun k hk e => by (try dsimp only at e); omega)))
  have DD := hide hD
  have r0 := (unhide R2).cell 0 rfl
  have r1 := (unhide R2).cell 1 rfl
  have r2 := (unhide R2).cell 2 rfl
  have r3 := (unhide R2).cell 3 rfl
  have f0 := (unhide R2).fro 0
  have f1 := (unhide R2).fro 1
  have f2 := (unhide R2).fro 2
  have f3 := (unhide R2).fro 3
  clear hB hT TF K1 R1 K2 R2 HC hD
  go_wp2_with fail
  change bodyPost _ _ _ _ _ (set4 w2 w.heap.size (.string (brOf o).key) (.string (brOf o).val) (.int .i64 (brOf o).at_) (.slice sa n c))
  generalize set4 w2 w.heap.size (.string (brOf o).key) (.string (brOf o).val) (.int .i64 (brOf o).at_) (.slice sa n c) = w10 at *
  have z0 := (unhide RF).cell 0 rfl
  have z1 := (unhide RF).cell 1 rfl
  have z2 := (unhide RF).cell 2 rfl
  have z3 := (unhide RF).cell 3 rfl
  refine bodyPost_ret (v := .agg #[.string (brOf o).key, .string (brOf o).val, .int .i64 (brOf o).at_, .slice sa n c]) (by simp [results, Tryd.results15, go_sem, z0, z1, z2, z3]) rfl ?_
  exact ⟨o, sa, n, c, unhide DD, rfl, unhide BF, unhide KF⟩
set_option maxHeartbeats 2000000 in
theorem mapKeyOf_any (a : Option Addr) (cap : Nat) (l : List Int) (w : World) (h : Bytes w (.slice a l.length cap) l) (hl : l.length ≤ 2097152) :
    Calls Tryd.prog 6 #[.slice a l.length cap] w fun e w' => ∃ j, j < 24 ∧ e = .returned (.string (keyN j)) ∧ Below w.heap.size w w' := by
  have HS := hide (l00Source_any a cap l w h hl)
  clear h
  go_enter Tryd.func6, Tryd.ntmps6
  go_wp2_with fail
  refine (unhide HS).mono ?_
  rintro e w1 ⟨rfl, hS, hb⟩
  have hs1 := hS.lt
  have KB := hide hb
  have HC := hide (mapKey_any w1 w.heap.size a cap l 0 hS (by omega))
  clear hS hb HS
  go_wp2_with fail
  refine (unhide HC).mono ?_
  rintro e w2 ⟨j, hj, rfl, hS, hT⟩
  have R := hide ((unhide KB).trans (hT.below (Nat.le_of_lt hs1) (fun k hk e => by (try dsimp only at e); omega)))
  clear hS hT HC
  go_wp2_with fail
  go_ret
  exact ⟨j, hj, rfl, unhide R⟩
end Go.Proofs.YtkcpdjeemdlgcaaDoor.Sha
namespace Go.Proofs.YtkcpdjeemdlgcaaDoor.Sha
open Go.ChangeShapes Go.WideShapes Go.ChangeAt Go.RowKit
set_option linter.unusedVariables false
set_option linter.unusedSimpArgs false

theorem fork_cnt (a : Nat) (hv : ByteArray) (l r : Tr) : (Tr.fork a hv l r).toBr.cnt = 1 + (l.toBr.cnt + r.toBr.cnt) := by
  rw [Br.cnt_eq]
  show 1 + cntL [l.toBr, r.toBr] = _
  rw [cntL_cons, cntL_cons]
  unfold cntL
  omega
theorem drop_cnt (h : ByteArray) : ∀ (t t' : Tr), dropT h t = some t' → t'.toBr.cnt ≤ t.toBr.cnt
  | .leaf k v, t', e => by cases e
  | .fork a hv l r, t', e => by
    have h1 := drop_cnt h l
    have h2 := drop_cnt h r
    rw [fork_cnt]
    rcases bitN_01 h a with hb | hb
    · rw [drop_0 h a hv l r hb] at e
      cases hd : dropT h l with
      | none => rw [hd] at e; cases e; show r.toBr.cnt ≤ _; omega
      | some l' => rw [hd] at e; cases e; have := h1 l' hd; show (Tr.fork a hv l' r).toBr.cnt ≤ _; rw [fork_cnt]; omega
    · rw [drop_1 h a hv l r hb] at e
      cases hd : dropT h r with
      | none => rw [hd] at e; cases e; show l.toBr.cnt ≤ _; omega
      | some r' => rw [hd] at e; cases e; have := h2 r' hd; show (Tr.fork a hv l r').toBr.cnt ≤ _; rw [fork_cnt]; omega
theorem drop_cntL (h : ByteArray) (t : Tr) : cntL (brOf (dropT h t)).kids ≤ cntL t.toBr.kids := by
  cases hd : dropT h t with
  | none => show cntL [] ≤ _; unfold cntL; omega
  | some t' =>
    have q := drop_cnt h t t' hd
    rw [Br.cnt_eq, Br.cnt_eq t.toBr] at q
    show cntL t'.toBr.kids ≤ _
    omega
end Go.Proofs.YtkcpdjeemdlgcaaDoor.Sha
namespace Go.Proofs.YtkcpdjeemdlgcaaDoor.Sha
open Go.ChangeShapes Go.WideShapes Go.ChangeAt Go.RowKit
set_option linter.unusedVariables false
set_option linter.unusedSimpArgs false

theorem opC_cases (b : Br) (key : ByteArray) : opC b key = 0 ∨ opC b key = 1 ∨ opC b key = 2 := by
  unfold opC
  split
  · split
    · exact .inr (.inl rfl)
    · exact .inl rfl
  · exact txC_cases _ _ _
theorem mp_long1 {b : Br} {key val : ByteArray} (h : 65536 < key.size) : mpOut b key val = (brOf none, 2) := by
  have e : txC key.size 1 24 = 2 := by unfold txC; rw [if_pos h]
  have e2 : opC b key = 2 := by unfold opC; rw [e, if_neg (by omega)]
  have e3 : mxI 2 (txC val.size 0 60) = 2 := by rcases txC_cases val.size 0 60 with h | h | h <;> rw [h] <;> rfl
  unfold mpOut
  rw [e2, e3, if_neg (by omega)]
theorem mp_long2 {b : Br} {key val : ByteArray} (h : 65536 < val.size) : mpOut b key val = (brOf none, 2) := by
  have e : txC val.size 0 60 = 2 := by unfold txC; rw [if_pos h]
  have e3 : mxI (opC b key) 2 = 2 := by rcases opC_cases b key with h | h | h <;> rw [h] <;> rfl
  unfold mpOut
  rw [e, e3, if_neg (by omega)]
def mpB (b : Br) (key val : ByteArray) : Bool := mapB b && okK key && decide (val.size ≤ 60)
theorem mp_short {b : Br} {key val : ByteArray} (h1 : ¬ 65536 < key.size) (h2 : ¬ 65536 < val.size) : mpOut b key val = if mpB b key val = true then (match mapV b with | none => (brOf none, 0) | some o => mpO o key val) else (brOf none, 1) := by
  have e1 : txC key.size 1 24 = if okK key = true then 0 else 1 := by unfold txC; rw [if_neg h1, okK_in]
  have e2 : txC val.size 0 60 = if val.size ≤ 60 then 0 else 1 := by
    unfold txC
    rw [if_neg h2]
    by_cases h : val.size ≤ 60
    · rw [if_pos h, if_pos (inB_iff.2 (by omega))]
    · rw [if_neg h, if_neg (fun e => h (by have := inB_iff.1 e; omega))]
  have e3 : opC b key = if mapB b = true ∧ okK key = true then 0 else 1 := by
    unfold opC
    rw [e1, mapB_V]
    cases okK key
    · simp
    · cases mapV b <;> simp
  unfold mpOut mpB
  rw [e2, e3]
  cases mapB b <;> cases okK key <;> by_cases h : val.size ≤ 60 <;> simp [h, mxI] <;> (cases mapV b <;> rfl)
set_option maxRecDepth 100000 in
set_option maxHeartbeats 4000000 in
theorem specMapPut_any (k v : ByteArray) (a : Int) (ks : List Br) (key val : ByteArray) (S : Nat → Prop) (kv : Value) (w : World) (hB : Brs S w kv ks) (hk : k.size ≤ maxLen) (hv : v.size ≤ maxLen) (hky : key.size ≤ 1048576) (hvl : val.size ≤ 1048576) :
    Calls Tryd.prog 16 #[.agg #[.string k, .string v, .int .i64 a, kv], .string key, .string val] w fun e w' => ∃ u, e = .returned (.tuple #[u, .int .i64 (mpOut (.mk k v a ks) key val).2]) ∧ BrV w.heap.size w' u (mpOut (.mk k v a ks) key val).1 ∧ Below w.heap.size w w' := by
  obtain ⟨sa, cap, rfl, hcap, hcm⟩ := hB.shape
  have B0 := hide (((Below.refl w.heap.size w).alloc (Nat.le_refl _) (.cells #[.string k, .string v, .int .i64 a, .slice sa ks.length cap] 27)).alloc (by simp) (.cells #[.string ⟨#[]⟩, .string ⟨#[]⟩, .int .i64 0, .slice none 0 0] 27))
  have X0 := hide ((Blk.new w #[.string k, .string v, .int .i64 a, .slice sa ks.length cap] 27 w.heap.size rfl).alloc (.cells #[.string ⟨#[]⟩, .string ⟨#[]⟩, .int .i64 0, .slice none 0 0] 27))
  have R0 := hide (Blk.new (w.alloc (.cells #[.string k, .string v, .int .i64 a, .slice sa ks.length cap] 27)) #[.string ⟨#[]⟩, .string ⟨#[]⟩, .int .i64 0, .slice none 0 0] 27 (w.heap.size + 1) (by simp))
  have HSZ := hide (show w.heap.size ≤ w.heap.size + 1 by omega)
  have HXR := hide (show w.heap.size < w.heap.size + 1 by omega)
  have HM := hide (fun wx (hx : Below w.heap.size w wx) => specMapOK_any k v a ks S _ wx (hB.blw hx) hk hv)
  have HKY := hide (fun wx => l02Keyb_any key wx (by unfold maxLen; omega))
  have HPT := hide (fun (hkv : TrOK (.leaf key val)) o (h : mapV (.mk k v a ks) = some o) wx (hx : Below w.heap.size w wx) => show Calls Tryd.prog 44 #[.agg #[.string k, .string v, .int .i64 a, .slice sa ks.length cap], .string key, .string val] wx fun e w' => DrR (fun x => x < w.heap.size) (mpT o key val).toBr wx e w' by
    obtain ⟨h1, h2⟩ := mapV_br h
    have hx2 := hB.bound.blw hx
    have q := l07Put_any o h2 (mapV_rise h) (mapV_sep h) key val hkv (fun x => x < w.heap.size) (.slice sa ks.length cap) wx (fun x h9 => Nat.lt_of_lt_of_le h9 hx.size) (by rw [← h1]; exact hx2)
    rw [← h1] at q
    exact q)
  by_cases h1 : 65536 < key.size
  · have HO : Hid (mpOut (.mk k v a ks) key val = (brOf none, 2)) := hide (mp_long1 h1)
    have HCD : True := trivial
    clear hB hk hv HM HPT HCD
    go_enter Tryd.func16, Tryd.ntmps16
    go_upto_region 1 with fail
    generalize (w.alloc (.cells #[.string k, .string v, .int .i64 a, .slice sa ks.length cap] 27)).alloc (.cells #[.string ⟨#[]⟩, .string ⟨#[]⟩, .int .i64 0, .slice none 0 0] 27) = w1 at *
    generalize w.heap.size + 1 = rb at *
    have r0 := (unhide R0).cell 0 rfl
    have r1 := (unhide R0).cell 1 rfl
    have r2 := (unhide R0).cell 2 rfl
    have r3 := (unhide R0).cell 3 rfl
    have f0 := (unhide R0).fro 0
    have f1 := (unhide R0).fro 1
    have f2 := (unhide R0).fro 2
    have f3 := (unhide R0).fro 3
    have hE := end4b (b := brOf none) (m := rb + 1) (unhide R0) (unhide B0) (BrO.nil (fun x => rb + 1 ≤ x ∧ x < _) none 0 (by unfold maxLen; omega)) (unhide HSZ) (Nat.lt_succ_self _)
    have z0 := hE.1.cell 0 rfl
    have z1 := hE.1.cell 1 rfl
    have z2 := hE.1.cell 2 rfl
    have z3 := hE.1.cell 3 rfl
    have HE := hide hE
    unfold set4 at z0 z1 z2 z3
    dsimp only [brOf, Br.key, Br.val, Br.at_] at z0 z1 z2 z3
    clear hE
    go_wp2_with fail
    refine bodyPost_ret (v := .tuple #[.agg #[.string ⟨#[]⟩, .string ⟨#[]⟩, .int .i64 0, .slice none 0 0], .int .i64 2]) (by simp [results, Tryd.results16, go_sem, z0, z1, z2, z3]) rfl ?_
    exact ⟨_, by rw [unhide HO], by rw [unhide HO]; exact (unhide HE).2.1, (unhide HE).2.2⟩
  by_cases h2 : 65536 < val.size
  · have HO : Hid (mpOut (.mk k v a ks) key val = (brOf none, 2)) := hide (mp_long2 h2)
    have HCD : True := trivial
    clear hB hk hv HM HPT HCD
    go_enter Tryd.func16, Tryd.ntmps16
    go_upto_region 1 with fail
    generalize (w.alloc (.cells #[.string k, .string v, .int .i64 a, .slice sa ks.length cap] 27)).alloc (.cells #[.string ⟨#[]⟩, .string ⟨#[]⟩, .int .i64 0, .slice none 0 0] 27) = w1 at *
    generalize w.heap.size + 1 = rb at *
    have r0 := (unhide R0).cell 0 rfl
    have r1 := (unhide R0).cell 1 rfl
    have r2 := (unhide R0).cell 2 rfl
    have r3 := (unhide R0).cell 3 rfl
    have f0 := (unhide R0).fro 0
    have f1 := (unhide R0).fro 1
    have f2 := (unhide R0).fro 2
    have f3 := (unhide R0).fro 3
    have hE := end4b (b := brOf none) (m := rb + 1) (unhide R0) (unhide B0) (BrO.nil (fun x => rb + 1 ≤ x ∧ x < _) none 0 (by unfold maxLen; omega)) (unhide HSZ) (Nat.lt_succ_self _)
    have z0 := hE.1.cell 0 rfl
    have z1 := hE.1.cell 1 rfl
    have z2 := hE.1.cell 2 rfl
    have z3 := hE.1.cell 3 rfl
    have HE := hide hE
    unfold set4 at z0 z1 z2 z3
    dsimp only [brOf, Br.key, Br.val, Br.at_] at z0 z1 z2 z3
    clear hE
    go_wp2_with fail
    refine bodyPost_ret (v := .tuple #[.agg #[.string ⟨#[]⟩, .string ⟨#[]⟩, .int .i64 0, .slice none 0 0], .int .i64 2]) (by simp [results, Tryd.results16, go_sem, z0, z1, z2, z3]) rfl ?_
    exact ⟨_, by rw [unhide HO], by rw [unhide HO]; exact (unhide HE).2.1, (unhide HE).2.2⟩
  have HSH := hide (mp_short (b := .mk k v a ks) h1 h2)
  have HBD : Hid (mpB (.mk k v a ks) key val = (mapB (.mk k v a ks) && okK key && decide (val.size ≤ 60))) := rfl
  have HMV := hide (mapB_V (.mk k v a ks))
  clear hB hk hv
  go_enter Tryd.func16, Tryd.ntmps16
  go_upto_region 3 with fail
  generalize (w.alloc (.cells #[.string k, .string v, .int .i64 a, .slice sa ks.length cap] 27)).alloc (.cells #[.string ⟨#[]⟩, .string ⟨#[]⟩, .int .i64 0, .slice none 0 0] 27) = w1 at *
  generalize w.heap.size + 1 = rb at *
  have HM1 := hide (unhide HM w1 (unhide B0))
  generalize mpB (.mk k v a ks) key val = mpb at *
  have x0 := (unhide X0).cell 0 rfl
  have x1 := (unhide X0).cell 1 rfl
  have x2 := (unhide X0).cell 2 rfl
  have x3 := (unhide X0).cell 3 rfl
  go_cut [30] (fun s wx => s = .bool (!mpb) ∧ Below w1.heap.size w1 wx)
  case first =>
    clear HSH HMV HM HPT
    generalize mapB (.mk k v a ks) = mb at *
    generalize okK key = ok at *
    go_wp2_with fail
    refine (unhide HM1).mono ?_
    rintro e w2 ⟨rfl, hb2⟩
    have HB2 := hide hb2
    clear hb2
    cases mb
    · go_wp2_with fail
      go_meet
      exact ⟨by rw [unhide HBD]; rfl, unhide HB2⟩
    · go_wp2_with fail
      refine (unhide HKY w2).mono ?_
      rintro e w9 ⟨rfl, hw9⟩
      subst w9
      cases ok
      · go_wp2_with fail
        go_meet
        exact ⟨by rw [unhide HBD]; rfl, unhide HB2⟩
      · by_cases h3 : val.size ≤ 60
        · have h4 : ¬ (60 : Int) < (val.size : Int) := by omega
          go_wp2_with fail
          go_meet
          exact ⟨by rw [unhide HBD]; simp [h3, h4], unhide HB2⟩
        · have h4 : (60 : Int) < (val.size : Int) := by omega
          go_wp2_with fail
          go_meet
          exact ⟨by rw [unhide HBD]; simp [h3, h4], unhide HB2⟩
  case rest =>
    obtain ⟨rfl, hbc⟩ := hcut
    obtain ⟨w2, hw2⟩ : ∃ w2, w2 = wc := ⟨_, rfl⟩
    subst hw2
    have B2 := hide ((unhide B0).trans (hbc.mono (unhide B0).size))
    have X2 := hide ((unhide X0).below hbc)
    have R2 := hide ((unhide R0).below hbc)
    clear hbc B0 X0 R0 HM HM1 HKY x0 x1 x2 x3
    cases mpb
    · have HO : Hid (mpOut (.mk k v a ks) key val = (brOf none, 1)) := hide (by rw [unhide HSH, if_neg (by simp)])
      clear HSH HBD HMV HPT
      rw [show (!false) = true from rfl]
      have r0 := (unhide R2).cell 0 rfl
      have r1 := (unhide R2).cell 1 rfl
      have r2 := (unhide R2).cell 2 rfl
      have r3 := (unhide R2).cell 3 rfl
      have f0 := (unhide R2).fro 0
      have f1 := (unhide R2).fro 1
      have f2 := (unhide R2).fro 2
      have f3 := (unhide R2).fro 3
      have hE := end4b (b := brOf none) (m := rb + 1) (unhide R2) (unhide B2) (BrO.nil (fun x => rb + 1 ≤ x ∧ x < _) none 0 (by unfold maxLen; omega)) (unhide HSZ) (Nat.lt_succ_self _)
      have z0 := hE.1.cell 0 rfl
      have z1 := hE.1.cell 1 rfl
      have z2 := hE.1.cell 2 rfl
      have z3 := hE.1.cell 3 rfl
      have HE := hide hE
      unfold set4 at z0 z1 z2 z3
      dsimp only [brOf, Br.key, Br.val, Br.at_] at z0 z1 z2 z3
      clear hE
      go_wp2_with fail
      refine bodyPost_ret (v := .tuple #[.agg #[.string ⟨#[]⟩, .string ⟨#[]⟩, .int .i64 0, .slice none 0 0], .int .i64 1]) (by simp [results, Tryd.results16, go_sem, z0, z1, z2, z3]) rfl ?_
      exact ⟨_, by rw [unhide HO], by rw [unhide HO]; exact (unhide HE).2.1, (unhide HE).2.2⟩
    · obtain ⟨⟨hm1, hm2⟩, hm3⟩ : (mapB (.mk k v a ks) = true ∧ okK key = true) ∧ val.size ≤ 60 := by
        have h := unhide HBD
        simpa using h.symm
      obtain ⟨o, hmo⟩ : ∃ o, mapV (.mk k v a ks) = some o := by
        have h := unhide HMV
        rw [hm1] at h
        cases hq : mapV (.mk k v a ks) with
        | none => rw [hq] at h; cases h
        | some o => exact ⟨o, rfl⟩
      have HO : Hid (mpOut (.mk k v a ks) key val = mpO o key val) := hide (by rw [unhide HSH, if_pos rfl, hmo])
      have hkv : TrOK (.leaf key val) := ⟨hm2, hm3⟩
      have HP2 := hide (unhide HPT hkv o hmo w2 (unhide B2))
      have HOK := hide (mpT_ok (mapV_br hmo).2 hkv)
      have HS40 : Hid ((mpT o key val).lvN ≤ 41 ∧ (40 < (mpT o key val).lvN → mpOut (.mk k v a ks) key val = (brOf none, 7)) ∧ (¬ 40 < (mpT o key val).lvN → mpOut (.mk k v a ks) key val = ((mpT o key val).toBr, 0))) := hide (by
        rw [unhide HO]
        have hsp := mapV_sep hmo
        have hbo := (mapV_br hmo).2
        cases o with
        | none => exact ⟨by show 1 ≤ 41; omega, fun h => by have h' : 40 < 1 := h; omega, fun _ => rfl⟩
        | some t =>
          have hn := putT_lvN (kh key) (putAt t key) key val (fd_le _ _) t hbo
          have h40 := hsp.2
          have e : (mpT (some t) key val).lvN = if putAt t key < 256 then t.lvN + 1 else t.lvN := hn
          rw [e]
          refine ⟨by split <;> omega, fun h => ?_, fun h => ?_⟩
          · unfold mpO
            dsimp only
            split at h
            · rename_i h5
              rw [if_pos ⟨h5, by omega⟩]
            · omega
          · unfold mpO
            dsimp only
            split at h
            · rename_i h5
              rw [if_neg (fun q => by omega)]
              rfl
            · rename_i h5
              rw [if_neg (fun q => h5 q.1)]
              rfl)
      have HCN := hide (show cntL (mpT o key val).toBr.kids ≤ 1048576 by have := tr_cntL (mpT o key val); have := (unhide HS40).1; omega)
      have HSZ2 := hide (fun S kv wx hb => l07Size_any (mpT o key val) (unhide HOK) (by have := (unhide HS40).1; omega) S kv wx hb)
      generalize mpT o key val = D at *
      clear HSH HBD HMV hm1 hm2 hm3 hmo HO hkv HPT
      rw [show (!true) = false from rfl]
      have x0 := (unhide X2).cell 0 rfl
      have x1 := (unhide X2).cell 1 rfl
      have x2 := (unhide X2).cell 2 rfl
      have x3 := (unhide X2).cell 3 rfl
      go_wp2_with fail
      refine (unhide HP2).mono ?_
      rintro e w3 ⟨s3, n3, c3, rfl, hBr3, hb3⟩
      have hsh := hBr3.shape
      have BB := (Below.refl w3.heap.size w3).alloc (Nat.le_refl _) (.cells #[.string D.toBr.key, .string D.toBr.val, .int .i64 D.toBr.at_, .slice s3 n3 c3] 27)
      have hb3b := hb3.trans (BB.mono hb3.size)
      have B3 := hide ((unhide B2).trans (hb3b.mono (unhide B2).size))
      have R3 := hide ((unhide R2).below hb3b)
      have Q3 := hide (Blk.new w3 #[.string D.toBr.key, .string D.toBr.val, .int .i64 D.toBr.at_, .slice s3 n3 c3] 27 w3.heap.size rfl)
      have K3 := hide (hBr3.blw BB)
      clear hb3 hb3b BB B2 X2 R2 x0 x1 x2 x3 hBr3 hsh HP2
      go_upto_region 6 with fail
      generalize w3.alloc (.cells #[.string D.toBr.key, .string D.toBr.val, .int .i64 D.toBr.at_, .slice s3 n3 c3] 27) = w4 at *
      generalize w3.heap.size = Q at *
      have q0 := (unhide Q3).cell 0 rfl
      have q1 := (unhide Q3).cell 1 rfl
      have q2 := (unhide Q3).cell 2 rfl
      have q3 := (unhide Q3).cell 3 rfl
      go_wp2_with fail
      refine (unhide HSZ2 _ _ w4 (unhide K3)).mono ?_
      rintro e w5 ⟨rfl, hb5⟩
      have B5 := hide ((unhide B3).trans (hb5.mono (unhide B3).size))
      have R5 := hide ((unhide R3).below hb5)
      have Q5 := hide ((unhide Q3).below hb5)
      have K5 := hide ((unhide K3).blw hb5)
      clear hb5 B3 R3 Q3 K3 q0 q1 q2 q3 HSZ2
      generalize hsn : D.lvN = sn at *
      by_cases hgt : 40 < sn
      · have HO7 := hide ((unhide HS40).2.1 hgt)
        have hgt2 : (40 : Int) < (sn : Int) := by omega
        clear HS40 hsn
        have r0 := (unhide R5).cell 0 rfl
        have r1 := (unhide R5).cell 1 rfl
        have r2 := (unhide R5).cell 2 rfl
        have r3 := (unhide R5).cell 3 rfl
        have f0 := (unhide R5).fro 0
        have f1 := (unhide R5).fro 1
        have f2 := (unhide R5).fro 2
        have f3 := (unhide R5).fro 3
        have hE := end4b (b := brOf none) (m := rb + 1) (unhide R5) (unhide B5) (BrO.nil (fun x => rb + 1 ≤ x ∧ x < _) none 0 (by unfold maxLen; omega)) (unhide HSZ) (Nat.lt_succ_self _)
        have z0 := hE.1.cell 0 rfl
        have z1 := hE.1.cell 1 rfl
        have z2 := hE.1.cell 2 rfl
        have z3 := hE.1.cell 3 rfl
        have HE := hide hE
        unfold set4 at z0 z1 z2 z3
        dsimp only [brOf, Br.key, Br.val, Br.at_] at z0 z1 z2 z3
        clear hE
        go_wp2_with fail
        refine bodyPost_ret (v := .tuple #[.agg #[.string ⟨#[]⟩, .string ⟨#[]⟩, .int .i64 0, .slice none 0 0], .int .i64 7]) (by simp [results, Tryd.results16, go_sem, z0, z1, z2, z3]) rfl ?_
        exact ⟨_, by rw [unhide HO7], by rw [unhide HO7]; exact (unhide HE).2.1, (unhide HE).2.2⟩
      · have HO0 := hide ((unhide HS40).2.2 hgt)
        have hgt2 : ¬ (40 : Int) < (sn : Int) := by omega
        have q0 := (unhide Q5).cell 0 rfl
        have q1 := (unhide Q5).cell 1 rfl
        have q2 := (unhide Q5).cell 2 rfl
        have q3 := (unhide Q5).cell 3 rfl
        have HOW := hide (l07Own_any (unhide K5) D.toBr.key D.toBr.val D.toBr.at_ w5 (unhide HCN) (Below.refl _ _))
        rw [br_eta] at HOW
        clear HS40 hsn
        go_wp2_with fail
        refine (unhide HOW).mono ?_
        rintro e w6 ⟨s6, n6, c6, rfl, hO6, hb6⟩
        have R6 := hide ((unhide R5).below hb6)
        have B6 := hide ((unhide B5).trans (hb6.mono (unhide B5).size))
        have hE := end4b (unhide R6) (unhide B6) hO6 (unhide HSZ) (unhide R5).1
        clear hb6 hO6 HOW B5 q0 q1 q2 q3
        have r0 := (unhide R6).cell 0 rfl
        have r1 := (unhide R6).cell 1 rfl
        have r2 := (unhide R6).cell 2 rfl
        have r3 := (unhide R6).cell 3 rfl
        have f0 := (unhide R6).fro 0
        have f1 := (unhide R6).fro 1
        have f2 := (unhide R6).fro 2
        have f3 := (unhide R6).fro 3
        have z0 := hE.1.cell 0 rfl
        have z1 := hE.1.cell 1 rfl
        have z2 := hE.1.cell 2 rfl
        have z3 := hE.1.cell 3 rfl
        have HE := hide hE
        unfold set4 at z0 z1 z2 z3
        clear hE
        go_wp2_with fail
        refine bodyPost_ret (v := .tuple #[.agg #[.string D.toBr.key, .string D.toBr.val, .int .i64 D.toBr.at_, .slice s6 n6 c6], .int .i64 0]) (by simp [results, Tryd.results16, go_sem, z0, z1, z2, z3]) rfl ?_
        exact ⟨_, by rw [unhide HO0], by rw [unhide HO0]; exact (unhide HE).2.1, (unhide HE).2.2⟩
end Go.Proofs.YtkcpdjeemdlgcaaDoor.Sha
