/- find, openMap; impl.MapGet. -/
import Derived.Test.YtnajpeaieeaflaaDoorBrU
namespace Go.Proofs.YtnajpeaieeaflaaDoor.Sha
open Go.ChangeShapes Go.WideShapes Go.ChangeAt Go.RowKit
set_option linter.unusedVariables false
set_option linter.unusedSimpArgs false

/-- What find answers: the leaf of the key, or nil. -/
def FindR (o : Option Tr) (key : ByteArray) (w : World) (e : Ending) (w' : World) : Prop := ∃ qv, e = .returned (.pointer qv) ∧ Below w.heap.size w w' ∧
  ((qv = none ∧ ∀ t, o = some t → (leadL (kh key) t).1 ≠ key) ∨ ∃ t q, o = some t ∧ (leadL (kh key) t).1 = key ∧ qv = some ⟨q, 0, none⟩ ∧ Blk w' q (lfC key (leadL (kh key) t).2))
set_option maxRecDepth 100000 in
set_option maxHeartbeats 2000000 in
theorem find_any (key : ByteArray) (hk : key.size ≤ 24) (w : World) (S : Nat → Prop) (pv : Option Addr) (o : Option Tr) (hp : PtrM w S pv o) (hr : RiseO o) (ht : Tab w) :
    Calls Tryd.prog 25 #[.pointer pv, .string key] w fun e w' => FindR o key w e w' := by
  obtain ⟨cap, w1, hcv, hB, hb1⟩ := str_bytesB key w (by unfold maxLen; omega)
  have HH := hide (implHash_any _ _ w1 hB (ht.below hb1).2 (ht.below hb1).1)
  have HV : Hid (kh key = hashV (bytesI key)) := rfl
  have hks := kh_size (k := key) (by omega)
  have B1 := hide hb1
  have HPM := hide (hp.blw hb1)
  clear hB ht hb1 hp
  cases o with
  | none =>
    obtain rfl : pv = none := unhide HPM
    go_enter Tryd.func25, Tryd.ntmps25
    go_wp2_with fail
    refine (unhide HH).mono ?_
    rintro e w2 ⟨rfl, hb2⟩
    have B2 := hide ((unhide B1).trans (hb2.mono (unhide B1).size))
    clear hb2
    rw [← unhide HV]
    have HLD : Hid (Calls Tryd.prog 62 #[.pointer none, .string (kh key)] w2 fun e w' => e = .returned (.pointer none) ∧ w' = w2) := hide (by
      clear HH hcv
      generalize kh key = h at *
      go_enter Tryd.func62, Tryd.ntmps62
      go_wp2_with fail
      go_loopw [0] (fun nv wr => nv = .pointer none ∧ wr = w2) (fun _ _ => 0)
      case atStart => exact ⟨rfl, rfl⟩
      case round =>
        obtain ⟨rfl, hwr⟩ := hrel
        subst wr
        go_wp2_with fail
        go_ret
        exact ⟨rfl, rfl⟩)
    go_wp2_with fail
    refine (unhide HLD).mono ?_
    rintro e w9 ⟨rfl, hw9⟩
    subst w9
    go_wp2_with fail
    go_ret
    exact ⟨none, rfl, unhide B2, .inl ⟨rfl, fun t ht => by cases ht⟩⟩
  | some t =>
    obtain ⟨p, rfl, hn⟩ := unhide HPM
    have HN := hide hn
    have HR := hide hr
    clear hn hr HPM
    go_enter Tryd.func25, Tryd.ntmps25
    go_wp2_with fail
    refine (unhide HH).mono ?_
    rintro e w2 ⟨rfl, hb2⟩
    have B2 := hide ((unhide B1).trans (hb2.mono (unhide B1).size))
    have N2 := hide ((unhide HN).blw hb2)
    clear hb2 HN HH hcv
    rw [← unhide HV]
    have HLD := hide (lead_any (kh key) hks w2 S p t (unhide N2) (unhide HR))
    have HF : Hid (∀ qv w', Below w.heap.size w w' → ((qv = none ∧ (leadL (kh key) t).1 ≠ key) ∨ ∃ q, (leadL (kh key) t).1 = key ∧ qv = some ⟨q, 0, none⟩ ∧ Blk w' q (lfC key (leadL (kh key) t).2)) → FindR (some t) key w (.returned (.pointer qv)) w') := hide (fun qv w' hb h => by
      refine ⟨qv, rfl, hb, ?_⟩
      rcases h with ⟨h1, h2⟩ | ⟨q, h1, h2, h3⟩
      · exact .inl ⟨h1, fun t' ht => by cases ht; exact h2⟩
      · exact .inr ⟨t, q, rfl, h1, h2, h3⟩)
    generalize leadL (kh key) t = kv at *
    obtain ⟨k, v⟩ := kv
    dsimp only at HLD HF
    clear HV hks
    generalize kh key = h at *
    go_wp2_with fail
    refine (unhide HLD).mono ?_
    rintro e w3 ⟨q, rfl, hq, n, hw3⟩
    have B3 : Hid (Below w.heap.size w w3) := hide (by rw [hw3]; exact below_drewN (unhide B2) n)
    have X3 := hide hq
    have x0 := hq.cell 0 rfl
    clear hq hw3 HLD
    by_cases hkk : k = key
    · have hb := list_eq hkk
      have HK := hide hkk
      clear hkk
      go_wp2_with fail
      go_ret
      refine unhide HF _ w3 (unhide B3) (.inr ⟨q, unhide HK, rfl, ?_⟩)
      have := unhide X3
      rw [unhide HK] at this
      exact this
    · have hb := list_ne hkk
      have HK := hide hkk
      clear hkk
      go_wp2_with fail
      go_ret
      exact unhide HF _ w3 (unhide B3) (.inl ⟨rfl, unhide HK⟩)
/-- What openMap answers. -/
def OpenR (b : Br) (key : ByteArray) (w : World) (e : Ending) (w' : World) : Prop := ∃ pv c, e = .returned (.tuple #[.pointer pv, .int .i64 c]) ∧ Below w.heap.size w w' ∧
  ((txC key.size 1 24 ≠ 0 ∧ c = txC key.size 1 24 ∧ pv = none) ∨ (txC key.size 1 24 = 0 ∧ mapV b = none ∧ c = 1 ∧ pv = none) ∨ (txC key.size 1 24 = 0 ∧ c = 0 ∧ ∃ o, mapV b = some o ∧ PtrM w' (fun x => w.heap.size ≤ x ∧ x < w'.heap.size) pv o))
set_option maxRecDepth 100000 in
set_option maxHeartbeats 1000000 in
theorem openMap_any (k v : ByteArray) (a : Int) (ks : List Br) (key : ByteArray) (S : Nat → Prop) (kv : Value) (w : World) (hB : Brs S w kv ks) (hk : k.size ≤ maxLen) (hv : v.size ≤ maxLen) (hky : key.size ≤ 1048576) (ht : Tab w) :
    Calls Tryd.prog 19 #[.agg #[.string k, .string v, .int .i64 a, kv], .string key] w fun e w' => OpenR (.mk k v a ks) key w e w' := by
  obtain ⟨sa, cap, rfl, hcap, hcm⟩ := hB.shape
  have B0 := hide ((Below.refl w.heap.size w).alloc (Nat.le_refl _) (.cells #[.string k, .string v, .int .i64 a, .slice sa ks.length cap] 25))
  have HR := hide (readMap_any k v a ks S _ _ (hB.blw (unhide B0)) hk hv (ht.below (unhide B0)))
  have HF := hide (fun wx => keyFault_any key wx (by unfold maxLen; omega))
  have HM := hide (mapB_V (.mk k v a ks))
  have HC := hide (txC_cases key.size 1 24)
  have HO : Hid (∀ pv c w', Below w.heap.size w w' → ((txC key.size 1 24 ≠ 0 ∧ c = txC key.size 1 24 ∧ pv = none) ∨ (txC key.size 1 24 = 0 ∧ mapV (.mk k v a ks) = none ∧ c = 1 ∧ pv = none) ∨ (txC key.size 1 24 = 0 ∧ c = 0 ∧ ∃ o, mapV (.mk k v a ks) = some o ∧ PtrM w' (fun x => w.heap.size ≤ x ∧ x < w'.heap.size) pv o)) → OpenR (.mk k v a ks) key w (.returned (.tuple #[.pointer pv, .int .i64 c])) w') := hide (fun pv c w' hb h => ⟨pv, c, rfl, hb, h⟩)
  have hz0 : w.heap.size ≤ (w.alloc (.cells #[.string k, .string v, .int .i64 a, .slice sa ks.length cap] 25)).heap.size := (unhide B0).size
  clear hB ht hk hv
  generalize txC key.size 1 24 = c at *
  go_enter Tryd.func19, Tryd.ntmps19
  go_wp2_with fail
  refine (unhide HF _).mono ?_
  rintro e w9 ⟨rfl, hw9⟩
  subst w9
  by_cases hc : c = 0
  case neg =>
    have hcb : (c != 0) = true := by simpa using hc
    have HCN := hide hc
    clear hc
    go_wp2_with fail
    go_ret2
    exact unhide HO none c _ (unhide B0) (.inl ⟨unhide HCN, rfl, rfl⟩)
  subst hc
  go_wp2_with fail
  refine (unhide HR).mono ?_
  rintro e w2 ⟨pv, rfl, hb, hpm⟩
  have B2 := hide ((unhide B0).trans (hb.mono (unhide B0).size))
  have HP := hide hpm
  clear hb HR hpm
  rw [unhide HM]
  cases hmv : mapV (.mk k v a ks) with
  | none =>
    rw [hmv] at HO HP
    have HPN := hide (show pv = none from unhide HP)
    clear hmv HP
    rw [show (none : Option (Option Tr)).isSome = false from rfl]
    go_wp2_with fail
    go_ret2
    exact unhide HO none 1 w2 (unhide B2) (.inr (.inl ⟨by simp, by simp, by simp, by simp⟩))
  | some o =>
    rw [hmv] at HO HP
    clear hmv
    rw [show (some o).isSome = true from rfl]
    go_wp2_with fail
    go_ret2
    refine unhide HO pv 0 w2 (unhide B2) (.inr (.inr ⟨by simp, by simp, o, by simp, ?_⟩))
    have hp := unhide HP
    cases o with
    | none => exact hp
    | some t => obtain ⟨p, h1, h2⟩ := hp; exact ⟨p, h1, h2.mono (fun x hx => ⟨Nat.le_trans hz0 hx.1, hx.2⟩)⟩
/-- The value at a key. -/
def getV (o : Option Tr) (key : ByteArray) : Option ByteArray := match o with
  | none => none
  | some t => if (leadL (kh key) t).1 = key then some (leadL (kh key) t).2 else none
/-- What MapGet answers. -/
def mgOut (b : Br) (key : ByteArray) : Value := if txC key.size 1 24 = 0 then (match mapV b with
    | none => .tuple #[.string ⟨#[]⟩, .int .i64 1]
    | some o => (match getV o key with
      | none => .tuple #[.string ⟨#[]⟩, .int .i64 5]
      | some x => .tuple #[.string x, .int .i64 0]))
  else .tuple #[.string ⟨#[]⟩, .int .i64 (txC key.size 1 24)]
theorem mg_cases (b : Br) (key : ByteArray) : ∃ s c, mgOut b key = .tuple #[.string s, .int .i64 c] := by
  unfold mgOut
  repeat' split
  all_goals exact ⟨_, _, rfl⟩
--IF impl.MapGet
set_option maxRecDepth 100000 in
set_option maxHeartbeats 1000000 in
theorem implMapGet_any (k v : ByteArray) (a : Int) (ks : List Br) (key : ByteArray) (S : Nat → Prop) (kv : Value) (w : World) (hB : Brs S w kv ks) (hk : k.size ≤ maxLen) (hv : v.size ≤ maxLen) (hky : key.size ≤ 1048576) (ht : Tab w) :
    Calls Tryd.prog 9 #[.agg #[.string k, .string v, .int .i64 a, kv], .string key] w fun e w' => e = .returned (mgOut (.mk k v a ks) key) ∧ Below w.heap.size w w' := by
  obtain ⟨sa, cap, rfl, hcap, hcm⟩ := hB.shape
  have B0 := hide ((Below.refl w.heap.size w).alloc (Nat.le_refl _) (.cells #[.string k, .string v, .int .i64 a, .slice sa ks.length cap] 25))
  have HR := hide (openMap_any k v a ks key S _ _ (hB.blw (unhide B0)) hk hv hky (ht.below (unhide B0)))
  have HT := hide ht
  have HRI := hide (fun o => mapV_rise (b := .mk k v a ks) (o := o))
  clear hB ht hk hv
  go_enter Tryd.func9, Tryd.ntmps9
  go_wp2_with fail
  refine (unhide HR).mono ?_
  rintro e w2 ⟨pv, c, rfl, hb, hcs⟩
  have B2 := hide ((unhide B0).trans (hb.mono (unhide B0).size))
  clear hb HR
  rcases hcs with ⟨h1, h2, h3⟩ | ⟨h1, h2, h3, h4⟩ | ⟨h1, h2, o, h3, h4⟩
  · have HO : Hid (mgOut (.mk k v a ks) key = .tuple #[.string ⟨#[]⟩, .int .i64 c]) := hide (by unfold mgOut; rw [if_neg h1, h2])
    have hcb : (c != 0) = true := by rw [h2]; simpa using h1
    clear h1 h2 h3
    go_wp2_with fail
    go_ret2
    exact ⟨by rw [unhide HO]; rfl, unhide B2⟩
  · have HO : Hid (mgOut (.mk k v a ks) key = .tuple #[.string ⟨#[]⟩, .int .i64 1]) := hide (by unfold mgOut; rw [if_pos h1, h2])
    subst h3
    clear h1 h2 h4
    go_wp2_with fail
    go_ret2
    exact ⟨by rw [unhide HO]; rfl, unhide B2⟩
  · have HO : Hid (mgOut (.mk k v a ks) key = match getV o key with | none => .tuple #[.string ⟨#[]⟩, .int .i64 5] | some x => .tuple #[.string x, .int .i64 0]) := hide (by unfold mgOut; rw [if_pos h1, h3])
    have hk24 := (txC_key h1).2
    have HFD := hide (find_any key hk24 w2 _ pv o h4 (unhide HRI o h3) ((unhide HT).below (unhide B2)))
    subst h2
    clear h1 h3 h4 HRI
    go_wp2_with fail
    refine (unhide HFD).mono ?_
    rintro e w3 ⟨qv, rfl, hb3, hq⟩
    have B3 := hide ((unhide B2).trans (hb3.mono (unhide B2).size))
    clear hb3 HFD
    rcases hq with ⟨hq1, hq2⟩ | ⟨t, q, hq1, hq2, hq3, hq4⟩
    · have HG : Hid (getV o key = none) := hide (by
        cases o with
        | none => rfl
        | some t => unfold getV; dsimp only; rw [if_neg (hq2 t rfl)])
      subst hq1
      rw [unhide HG] at HO
      clear hq2
      go_wp2_with fail
      go_ret2
      exact ⟨by rw [unhide HO]; rfl, unhide B3⟩
    · have HG : Hid (getV o key = some (leadL (kh key) t).2) := hide (by rw [hq1]; unfold getV; dsimp only; rw [if_pos hq2])
      subst hq3
      rw [unhide HG] at HO
      have x1 := hq4.cell 1 rfl
      clear hq1 hq2 hq4
      generalize (leadL (kh key) t).2 = vv at *
      go_wp2_with fail
      go_ret2
      exact ⟨by rw [unhide HO]; rfl, unhide B3⟩
--FI
end Go.Proofs.YtnajpeaieeaflaaDoor.Sha
