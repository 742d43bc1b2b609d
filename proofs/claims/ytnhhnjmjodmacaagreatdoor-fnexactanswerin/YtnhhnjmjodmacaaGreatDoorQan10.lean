/- A map read into nodes: (*mapReader).node. readMap, impl.MapOK. Right maps, pure: what a branch that is right looks like; its root. The specification's maps: l07Leaf, l07Empty, l07Count, spec.MapOK. The specification's count of leaves: l07Count; spec.MapOK. The leaf that a hash's bits lead to: lead, find; openMap; impl.MapGet. find, openMap; impl.MapGet. A leaf put into a map, pure; newFork over a map; (*mapNode).with. -/
import Derived.Test.YtnhhnjmjodmacaaGreatDoorQan09
import Derived.Test.YtnhhnjmjodmacaaGreatDoorQan01
import Derived.Deep.DeepCutAuto
import Derived.Deep.RegionHeldLaw
import Derived.Deep.RegionLaw
import Derived.Deep.QuietTactic
import Derived.BigQuiet
namespace Go.Proofs.YtnhhnjmjodmacaaGreatDoor.Sha
open Go.ChangeShapes Go.WideShapes Go.ChangeAt Go.RowKit
set_option linter.unusedVariables false
set_option linter.unusedSimpArgs false
theorem empty_size {k : ByteArray} (h : k.size = 0) : k = ⟨#[]⟩ := by
  obtain ⟨⟨l⟩⟩ := k
  have : l.length = 0 := h
  rw [List.eq_nil_of_length_eq_zero this]
theorem ne_empty {k : ByteArray} (h : k ≠ ⟨#[]⟩) : k.toList.isEmpty = false := by
  cases hb : k.toList.isEmpty
  · rfl
  · exact absurd (empty_size (emptyB_iff.1 hb)) h

end Go.Proofs.YtnhhnjmjodmacaaGreatDoor.Sha
namespace Go.Proofs.YtnhhnjmjodmacaaGreatDoor.Sha
open Go.ChangeShapes Go.WideShapes Go.ChangeAt Go.RowKit
set_option linter.unusedVariables false
set_option linter.unusedSimpArgs false
theorem Brs.bound {S : Nat → Prop} {w : World} {v : Value} {l : List Br} (h : Brs S w v l) : Brs (fun x => x < w.heap.size) w v l := by
  induction h with
  | nil a cap hc => exact .nil a cap hc
  | row b off cap l kv h0 h1 h2 h3 h4 h5 h6 h7 ih => exact .row b off cap l kv h0 h1 h2 h3 h3 h5 h6 ih
/-- The pointer leads to the nodes of this map. -/
def PtrM (w : World) (S : Nat → Prop) (pv : Option Addr) : Option Tr → Prop
  | none => pv = none
  | some t => ∃ p, pv = some ⟨p, 0, none⟩ ∧ Nd w S p t
theorem PtrM.blw {w w' : World} {S : Nat → Prop} {pv : Option Addr} {o : Option Tr} (h : PtrM w S pv o) (hb : Below w.heap.size w w') : PtrM w' S pv o := by
  cases o with
  | none => exact h
  | some t => obtain ⟨p, h1, h2⟩ := h; exact ⟨p, h1, h2.blw hb⟩
theorem empty_iff (k v : ByteArray) (a : Int) (l : List Br) : emptyBr (.mk k v a l) = true ↔ k = ⟨#[]⟩ ∧ v = ⟨#[]⟩ ∧ a = 0 ∧ l.length = 0 := by
  unfold emptyBr
  simp only [Br.key, Br.val, Br.at_, Br.kids, Bool.and_eq_true]
  constructor
  · rintro ⟨h1, h2, h3, h4⟩; exact ⟨empty_size (of_decide_eq_true h1), empty_size (of_decide_eq_true h2), of_decide_eq_true h3, of_decide_eq_true h4⟩
  · rintro ⟨rfl, rfl, h3, h4⟩; exact ⟨rfl, rfl, decide_eq_true h3, decide_eq_true h4⟩
end Go.Proofs.YtnhhnjmjodmacaaGreatDoor.Sha
namespace Go.Proofs.YtnhhnjmjodmacaaGreatDoor.Sha
open Go.ChangeShapes Go.WideShapes Go.ChangeAt Go.RowKit
set_option linter.unusedVariables false
/-- The branch of a right map. -/
def Tr.toBr : Tr → Br
  | .leaf k v => .mk k v 256 []
  | .fork a _ l r => .mk ⟨#[]⟩ ⟨#[]⟩ a [l.toBr, r.toBr]
def TrOK : Tr → Prop
  | .leaf k v => okK k = true ∧ v.size ≤ 60
  | .fork a h l r => a < 256 ∧ h.size = 32 ∧ TrOK l ∧ TrOK r
/-- The branch of a map, or of an empty one. -/
def brOf : Option Tr → Br
  | none => .mk ⟨#[]⟩ ⟨#[]⟩ 0 []
  | some t => t.toBr
def OkO : Option Tr → Prop
  | none => True
  | some t => TrOK t
theorem not_empty {t : Tr} (h : TrOK t) : emptyBr t.toBr = false := by
  cases t with
  | leaf k v =>
    cases he : emptyBr (Tr.leaf k v).toBr
    · rfl
    · have := (empty_iff k v 256 []).1 he
      omega
  | fork a hh l r =>
    cases he : emptyBr (Tr.fork a hh l r).toBr
    · rfl
    · have := ((empty_iff ⟨#[]⟩ ⟨#[]⟩ a [l.toBr, r.toBr]).1 he).2.2.2
      simp at this
end Go.Proofs.YtnhhnjmjodmacaaGreatDoor.Sha
namespace Go.Proofs.YtnhhnjmjodmacaaGreatDoor.Sha
open Go.ChangeShapes Go.WideShapes Go.ChangeAt Go.RowKit
set_option linter.unusedVariables false
set_option linter.unusedSimpArgs false
set_option maxRecDepth 100000 in
theorem l07Leaf_any (k v : ByteArray) (a : Int) (sa : Option Addr) (n cap : Nat) (w : World) (hn : n ≤ maxLen) :
    Calls Tryz.prog 103 #[.agg #[.string k, .string v, .int .i64 a, .slice sa n cap]] w fun e w' => e = .returned (.bool (decide (n = 0))) ∧ Below w.heap.size w w' := by
  have B0 := hide ((Below.refl w.heap.size w).alloc (Nat.le_refl _) (.cells #[.string k, .string v, .int .i64 a, .slice sa n cap] 35))
  unfold maxLen at hn
  by_cases h : n = 0
  · have H := hide (show decide (n = 0) = true from decide_eq_true h)
    have hb : ((n : Int) == 0) = true := by simpa using h
    clear h
    go_enter Tryz.func103, Tryz.ntmps103
    go_wp2_with fail
    go_ret
    exact ⟨ret_bool (unhide H).symm, unhide B0⟩
  · have H := hide (show decide (n = 0) = false from decide_eq_false h)
    have hb : ((n : Int) == 0) = false := by rw [beq_eq_false_iff_ne]; omega
    clear h
    go_enter Tryz.func103, Tryz.ntmps103
    go_wp2_with fail
    go_ret
    exact ⟨ret_bool (unhide H).symm, unhide B0⟩
set_option maxRecDepth 100000 in
theorem l07Empty_any (k v : ByteArray) (a : Int) (l : List Br) (sa : Option Addr) (cap : Nat) (w : World) (hn : l.length ≤ maxLen) :
    Calls Tryz.prog 84 #[.agg #[.string k, .string v, .int .i64 a, .slice sa l.length cap]] w fun e w' => e = .returned (.bool (emptyBr (.mk k v a l))) ∧ Below w.heap.size w w' := by
  have B0 := hide ((Below.refl w.heap.size w).alloc (Nat.le_refl _) (.cells #[.string k, .string v, .int .i64 a, .slice sa l.length cap] 35))
  unfold maxLen at hn
  have HE := hide (empty_iff k v a l)
  generalize emptyBr (.mk k v a l) = eb at *
  have HF : Hid (¬ (k = ⟨#[]⟩ ∧ v = ⟨#[]⟩ ∧ a = 0 ∧ l.length = 0) → eb = false) := hide (fun h => by cases eb; rfl; exact absurd ((unhide HE).1 rfl) h)
  by_cases h1 : k = ⟨#[]⟩
  case neg =>
    have H := hide (unhide HF (fun h => h1 h.1))
    have hkb := ne_empty h1
    clear h1
    go_enter Tryz.func84, Tryz.ntmps84
    go_wp2_with fail
    go_ret
    exact ⟨ret_bool (unhide H).symm, unhide B0⟩
  have hkb : k.toList.isEmpty = true := emptyB_iff.2 (by rw [h1]; rfl)
  by_cases h2 : v = ⟨#[]⟩
  case neg =>
    have H := hide (unhide HF (fun h => h2 h.2.1))
    have hvb := ne_empty h2
    clear h1 h2
    go_enter Tryz.func84, Tryz.ntmps84
    go_wp2_with fail
    go_ret
    exact ⟨ret_bool (unhide H).symm, unhide B0⟩
  have hvb : v.toList.isEmpty = true := emptyB_iff.2 (by rw [h2]; rfl)
  by_cases h3 : a = 0
  case neg =>
    have H := hide (unhide HF (fun h => h3 h.2.2.1))
    have hab : (a == 0) = false := by simpa using h3
    clear h1 h2 h3
    go_enter Tryz.func84, Tryz.ntmps84
    go_wp2_with fail
    go_ret
    exact ⟨ret_bool (unhide H).symm, unhide B0⟩
  have hab : (a == 0) = true := by simpa using h3
  by_cases h4 : l.length = 0
  · have H := hide ((unhide HE).2 ⟨h1, h2, h3, h4⟩)
    have hlb : ((l.length : Int) == 0) = true := by simpa using h4
    clear h1 h2 h3 h4
    go_enter Tryz.func84, Tryz.ntmps84
    go_wp2_with fail
    go_ret
    exact ⟨ret_bool (unhide H).symm, unhide B0⟩
  · have H := hide (unhide HF (fun h => h4 h.2.2.2))
    have hlb : ((l.length : Int) == 0) = false := by rw [beq_eq_false_iff_ne]; omega
    clear h1 h2 h3 h4
    go_enter Tryz.func84, Tryz.ntmps84
    go_wp2_with fail
    go_ret
    exact ⟨ret_bool (unhide H).symm, unhide B0⟩
end Go.Proofs.YtnhhnjmjodmacaaGreatDoor.Sha
namespace Go.Proofs.YtnhhnjmjodmacaaGreatDoor.Sha
open Go.ChangeShapes Go.WideShapes Go.ChangeAt Go.RowKit
set_option linter.unusedVariables false
set_option linter.unusedSimpArgs false
theorem list_ne {a b : ByteArray} (h : a ≠ b) : (a.toList == b.toList) = false := by
  rw [beq_eq_false_iff_ne]
  intro e
  rw [ByteArray.toList_eq, ByteArray.toList_eq] at e
  exact h (ByteArray.ext (Array.toList_inj.1 e))
theorem list_eq {a b : ByteArray} (h : a = b) : (a.toList == b.toList) = true := by rw [h]; simp
end Go.Proofs.YtnhhnjmjodmacaaGreatDoor.Sha
namespace Go.Proofs.YtnhhnjmjodmacaaGreatDoor.Sha
open Go.ChangeShapes Go.WideShapes Go.ChangeAt Go.RowKit
set_option linter.unusedVariables false
set_option linter.unusedSimpArgs false
/-- The bits' numbers rise from the top down. -/
def Rise : Nat → Tr → Prop
  | n, .leaf _ _ => n ≤ 256
  | n, .fork a _ l r => n ≤ a ∧ a < 256 ∧ Rise (a + 1) l ∧ Rise (a + 1) r
def Tr.at_ : Tr → Nat
  | .leaf _ _ => 256
  | .fork a _ _ _ => a
theorem Rise.le {n : Nat} {t : Tr} (h : Rise n t) : n ≤ t.at_ := by
  cases t with
  | leaf k v => exact h
  | fork a hh l r => exact h.1
theorem Rise.le256 {n : Nat} {t : Tr} (h : Rise n t) : t.at_ ≤ 256 := by
  cases t with
  | leaf k v => exact Nat.le_refl _
  | fork a hh l r => exact Nat.le_of_lt h.2.1
def RiseO : Option Tr → Prop
  | none => True
  | some t => Rise 0 t
/-- The leaf that a hash's bits lead to. -/
def leadL (h : ByteArray) : Tr → ByteArray × ByteArray
  | .leaf k v => (k, v)
  | .fork a _ l r => if bitN h a = 0 then leadL h l else leadL h r
theorem lead_ok (h : ByteArray) : ∀ t, TrOK t → okK (leadL h t).1 = true ∧ (leadL h t).2.size ≤ 60
  | .leaf k v, ho => ho
  | .fork a hh l r, ho => by
    unfold leadL
    split
    · exact lead_ok h l ho.2.2.1
    · exact lead_ok h r ho.2.2.2
/-- The number in the fourth cell of a block. -/
def atCell (v : Value) (w : World) : Nat := match v with
  | .pointer (some ad) => (match w.cell? ⟨ad.block, 3, none⟩ with
    | some (.int _ a) => a.toNat
    | _ => 0)
  | _ => 0
theorem atCell_is {p : Nat} {w : World} {a : Nat} (h : w.cell? ⟨p, 3, none⟩ = some (.int .i64 a)) : atCell (.pointer (some ⟨p, 0, none⟩)) w = a := by
  unfold atCell
  dsimp only
  rw [h]
  simp
theorem Nd.atC {w : World} {S : Nat → Prop} {p : Nat} {t : Tr} (h : Nd w S p t) : w.cell? ⟨p, 3, none⟩ = some (.int .i64 t.at_) := by
  cases h with
  | leaf S p k v h0 h1 => exact h1.cell 3 rfl
  | fork S Sl Sr p a h l r pl pr h0 h1 h2 h3 h4 => exact h4.cell 3 rfl
set_option maxRecDepth 100000 in
set_option maxHeartbeats 2000000 in
theorem lead_any (h : ByteArray) (hh : h.size = 32) (w : World) (S : Nat → Prop) (p : Nat) (t : Tr) (hn : Nd w S p t) (hr : Rise 0 t) :
    Calls Tryz.prog 141 #[.pointer (some ⟨p, 0, none⟩), .string h] w fun e w' => ∃ q, e = .returned (.pointer (some ⟨q, 0, none⟩)) ∧ Blk w' q (lfC (leadL h t).1 (leadL h t).2) ∧ ∃ n, w' = w.drewN n := by
  have HN := hide hn
  have HR := hide hr
  clear hn hr
  go_enter Tryz.func141, Tryz.ntmps141
  go_wp2_with fail
  go_loopw [0] (fun nv wr => ∃ (p' m : Nat) (t' : Tr) (S' : Nat → Prop), nv = .pointer (some ⟨p', 0, none⟩) ∧ Nd wr S' p' t' ∧ Rise m t' ∧ leadL h t' = leadL h t ∧ ∃ n, wr = w.drewN n) (fun nv wr => 256 - atCell nv wr)
  case atStart => exact ⟨p, 0, t, S, rfl, unhide HN, unhide HR, rfl, 0, rfl⟩
  case round =>
    clear HN HR
    obtain ⟨p', m, t', S', rfl, hn, hr, hl, n, hw⟩ := hrel
    have HW := hide hw
    have HL := hide hl
    have HA := hide (atCell_is hn.atC)
    clear hw hl
    cases hn with
    | leaf S' p' k v h0 h1 =>
      have x3 := h1.cell 3 rfl
      have X := hide h1
      clear h1 hr HA
      go_wp2_with fail
      go_ret
      refine ⟨p', rfl, ?_, n, unhide HW⟩
      rw [← unhide HL]
      exact unhide X
    | fork S' Sl Sr p' a hv l r pl pr h0 h1 h2 h3 h4 h5 h6 =>
      obtain ⟨r0, r1, r2, r3⟩ := hr
      have x3 := h4.cell 3 rfl
      have x4 := h4.cell 4 rfl
      have x5 := h4.cell 5 rfl
      have HB := hide (fun wx => hashBit_any h a wx hh r1)
      have ha : (a : Int) < 256 := by omega
      have HE : Hid (leadL h (.fork a hv l r) = if bitN h a = 0 then leadL h l else leadL h r) := rfl
      have HN5 := hide h5
      have HN6 := hide h6
      clear h1 h2 h3 h4 h5 h6 h0
      rcases bitN_01 h a with hb | hb
      · rw [hb] at HB HE
        rw [if_pos rfl] at HE
        go_wp2_with fail
        go_quiet (first | (go_at_call 114; exact Calls.quiet_of_same (unhide HB _)))
        have N2 := hide ((unhide HN5).blw (below_drewN (Below.refl _ wr) nq))
        have HW2 : Hid (∃ n', wr.drewN nq = w.drewN n') := hide ⟨n + nq, by rw [unhide HW, World.drewN_drewN]⟩
        generalize wr.drewN nq = w2 at *
        go_wp2_with fail
        have hat := atCell_is (unhide N2).atC
        have hle := r2.le
        have hle2 := r2.le256
        have hA := unhide HA
        refine ⟨⟨pl, a + 1, l, Sl, rfl, unhide N2, r2, ?_, unhide HW2⟩, ?_⟩
        · rw [← unhide HL, unhide HE]
        · rw [hat, hA]; show 256 - l.at_ < 256 - a; omega
      · rw [hb] at HB HE
        rw [if_neg (by omega)] at HE
        go_wp2_with fail
        go_quiet (first | (go_at_call 114; exact Calls.quiet_of_same (unhide HB _)))
        have N2 := hide ((unhide HN6).blw (below_drewN (Below.refl _ wr) nq))
        have HW2 : Hid (∃ n', wr.drewN nq = w.drewN n') := hide ⟨n + nq, by rw [unhide HW, World.drewN_drewN]⟩
        generalize wr.drewN nq = w2 at *
        go_wp2_with fail
        have hat := atCell_is (unhide N2).atC
        have hle := r3.le
        have hle2 := r3.le256
        have hA := unhide HA
        refine ⟨⟨pr, a + 1, r, Sr, rfl, unhide N2, r3, ?_, unhide HW2⟩, ?_⟩
        · rw [← unhide HL, unhide HE]
        · rw [hat, hA]; show 256 - r.at_ < 256 - a; omega
end Go.Proofs.YtnhhnjmjodmacaaGreatDoor.Sha
namespace Go.Proofs.YtnhhnjmjodmacaaGreatDoor.Sha
open Go.ChangeShapes Go.WideShapes Go.ChangeAt Go.RowKit
set_option linter.unusedVariables false
set_option linter.unusedSimpArgs false
/-- What find answers: the leaf of the key, or nil. -/
def FindR (o : Option Tr) (key : ByteArray) (w : World) (e : Ending) (w' : World) : Prop := ∃ qv, e = .returned (.pointer qv) ∧ Below w.heap.size w w' ∧
  ((qv = none ∧ ∀ t, o = some t → (leadL (kh key) t).1 ≠ key) ∨ ∃ t q, o = some t ∧ (leadL (kh key) t).1 = key ∧ qv = some ⟨q, 0, none⟩ ∧ Blk w' q (lfC key (leadL (kh key) t).2))
set_option maxRecDepth 100000 in
set_option maxHeartbeats 2000000 in
theorem find_any (key : ByteArray) (hk : key.size ≤ 24) (w : World) (S : Nat → Prop) (pv : Option Addr) (o : Option Tr) (hp : PtrM w S pv o) (hr : RiseO o) (ht : Tab w) :
    Calls Tryz.prog 131 #[.pointer pv, .string key] w fun e w' => FindR o key w e w' := by
  obtain ⟨cap, w1, hcv, hB, hb1⟩ := str_bytesB key w (by unfold maxLen; omega)
  have HH := hide (implHash_any _ _ w1 hB (ht.below hb1).2 (ht.below hb1).1)
  have HV : Hid (kh key = hashV (bytesI key)) := rfl
  have hks := kh_size (k := key) (by omega)
  have B1 := hide hb1
  have HPM := hide (hp.blw hb1)
  clear hB ht hb1 hp
  cases o with
  | none =>
    obtain rfl : pv = none := unhide HPM
    go_enter Tryz.func131, Tryz.ntmps131
    go_wp2_with fail
    refine (unhide HH).mono ?_
    rintro e w2 ⟨rfl, hb2⟩
    have B2 := hide ((unhide B1).trans (hb2.mono (unhide B1).size))
    clear hb2
    rw [← unhide HV]
    have HLD : Hid (Calls Tryz.prog 141 #[.pointer none, .string (kh key)] w2 fun e w' => e = .returned (.pointer none) ∧ w' = w2) := hide (by
      clear HH hcv
      generalize kh key = h at *
      go_enter Tryz.func141, Tryz.ntmps141
      go_wp2_with fail
      go_loopw [0] (fun nv wr => nv = .pointer none ∧ wr = w2) (fun _ _ => 0)
      case atStart => exact ⟨rfl, rfl⟩
      case round =>
        obtain ⟨rfl, hwr⟩ := hrel
        subst wr
        go_wp2_with fail
        go_ret
        exact ⟨rfl, rfl⟩)
    go_wp2_with fail
    refine (unhide HLD).mono ?_
    rintro e w9 ⟨rfl, hw9⟩
    subst w9
    go_wp2_with fail
    go_ret
    exact ⟨none, rfl, unhide B2, .inl ⟨rfl, fun t ht => by cases ht⟩⟩
  | some t =>
    obtain ⟨p, rfl, hn⟩ := unhide HPM
    have HN := hide hn
    have HR := hide hr
    clear hn hr HPM
    go_enter Tryz.func131, Tryz.ntmps131
    go_wp2_with fail
    refine (unhide HH).mono ?_
    rintro e w2 ⟨rfl, hb2⟩
    have B2 := hide ((unhide B1).trans (hb2.mono (unhide B1).size))
    have N2 := hide ((unhide HN).blw hb2)
    clear hb2 HN HH hcv
    rw [← unhide HV]
    have HLD := hide (lead_any (kh key) hks w2 S p t (unhide N2) (unhide HR))
    have HF : Hid (∀ qv w', Below w.heap.size w w' → ((qv = none ∧ (leadL (kh key) t).1 ≠ key) ∨ ∃ q, (leadL (kh key) t).1 = key ∧ qv = some ⟨q, 0, none⟩ ∧ Blk w' q (lfC key (leadL (kh key) t).2)) → FindR (some t) key w (.returned (.pointer qv)) w') := hide (fun qv w' hb h => by
      refine ⟨qv, rfl, hb, ?_⟩
      rcases h with ⟨h1, h2⟩ | ⟨q, h1, h2, h3⟩
      · exact .inl ⟨h1, fun t' ht => by cases ht; exact h2⟩
      · exact .inr ⟨t, q, rfl, h1, h2, h3⟩)
    generalize leadL (kh key) t = kv at *
    obtain ⟨k, v⟩ := kv
    dsimp only at HLD HF
    clear HV hks
    generalize kh key = h at *
    go_wp2_with fail
    refine (unhide HLD).mono ?_
    rintro e w3 ⟨q, rfl, hq, n, hw3⟩
    have B3 : Hid (Below w.heap.size w w3) := hide (by rw [hw3]; exact below_drewN (unhide B2) n)
    have X3 := hide hq
    have x0 := hq.cell 0 rfl
    clear hq hw3 HLD
    by_cases hkk : k = key
    · have hb := list_eq hkk
      have HK := hide hkk
      clear hkk
      go_wp2_with fail
      go_ret
      refine unhide HF _ w3 (unhide B3) (.inr ⟨q, unhide HK, rfl, ?_⟩)
      have := unhide X3
      rw [unhide HK] at this
      exact this
    · have hb := list_ne hkk
      have HK := hide hkk
      clear hkk
      go_wp2_with fail
      go_ret
      exact unhide HF _ w3 (unhide B3) (.inl ⟨rfl, unhide HK⟩)
/-- The value at a key. -/
def getV (o : Option Tr) (key : ByteArray) : Option ByteArray := match o with
  | none => none
  | some t => if (leadL (kh key) t).1 = key then some (leadL (kh key) t).2 else none
end Go.Proofs.YtnhhnjmjodmacaaGreatDoor.Sha
namespace Go.Proofs.YtnhhnjmjodmacaaGreatDoor.Sha
open Go.ChangeShapes Go.WideShapes Go.ChangeAt Go.RowKit
set_option linter.unusedVariables false
set_option linter.unusedSimpArgs false
/-- How many leaves. -/
def Tr.lvN : Tr → Nat
  | .leaf _ _ => 1
  | .fork _ _ l r => l.lvN + r.lvN
/-- Hashes below a fork: alike ahead of its bit, the first kid's with 0 there. -/
def Sep : Tr → Prop
  | .leaf _ _ => True
  | .fork a h l r => (∀ i, i < a → bitN h i = bitN l.hash i) ∧ fd l.hash r.hash = a ∧ bitN l.hash a = 0 ∧ Sep l ∧ Sep r
def SepO : Option Tr → Prop
  | none => True
  | some t => Sep t ∧ t.lvN ≤ 40
theorem fdF_comm (x y : ByteArray) : ∀ n i, fdF x y n i = fdF y x n i
  | 0, i => rfl
  | n + 1, i => by
    unfold fdF
    by_cases h : bitN x i = bitN y i
    · rw [if_pos h, if_pos h.symm, fdF_comm x y n]
    · rw [if_neg h, if_neg (fun e => h e.symm)]
theorem fd_comm (x y : ByteArray) : fd x y = fd y x := fdF_comm x y 256 0
theorem lead_alike (h : ByteArray) : ∀ (t : Tr) (m : Nat), Rise m t → Sep t → ∀ i, i < t.at_ → bitN (kh (leadL h t).1) i = bitN t.hash i
  | .leaf k v, m, hr, hs, i, hi => rfl
  | .fork a hh l r, m, hr, hs, i, hi => by
    obtain ⟨r0, r1, r2, r3⟩ := hr
    obtain ⟨s0, s1, s2, s3, s4⟩ := hs
    have hi' : i < a := hi
    have hl := r2.le
    have hrr := r3.le
    unfold leadL
    split
    · rw [lead_alike h l _ r2 s3 i (by omega)]
      show _ = bitN hh i
      rw [s0 i hi']
    · rw [lead_alike h r _ r3 s4 i (by omega)]
      show _ = bitN hh i
      rw [s0 i hi']
      exact (((fd_iff l.hash r.hash a r1).1 s1).1 i hi').symm
theorem lead_bit (h : ByteArray) {a : Nat} {hh : ByteArray} {l r : Tr} {m : Nat} (hr : Rise m (.fork a hh l r)) (hs : Sep (.fork a hh l r)) : bitN (kh (leadL h (.fork a hh l r)).1) a = bitN h a := by
  obtain ⟨r0, r1, r2, r3⟩ := hr
  obtain ⟨s0, s1, s2, s3, s4⟩ := hs
  have hl := r2.le
  have hrr := r3.le
  unfold leadL
  split
  · rename_i hb
    rw [lead_alike h l _ r2 s3 a (by omega), s2, hb]
  · rename_i hb
    rw [lead_alike h r _ r3 s4 a (by omega)]
    have h1 := ((fd_iff l.hash r.hash a r1).1 s1).2
    rcases bitN_01 r.hash a with e | e
    · exact absurd (s2.trans e.symm) h1
    · rcases bitN_01 h a with e' | e'
      · exact absurd e' hb
      · rw [e, e']
/-- A fork of a new leaf and a map. -/
def forkT (a : Nat) (h k v : ByteArray) (t : Tr) : Tr := if bitN h a = 0 then .fork a h (.leaf k v) t else .fork a h t (.leaf k v)
/-- The map with a leaf. -/
def putT (h : ByteArray) (at_ : Nat) (k v : ByteArray) : Tr → Tr
  | .leaf k' v' => if at_ = 256 then .leaf k v else forkT at_ h k v (.leaf k' v')
  | .fork a hh l r => if a < at_ then (if bitN h a = 0 then .fork a hh (putT h at_ k v l) r else .fork a hh l (putT h at_ k v r)) else forkT at_ h k v (.fork a hh l r)
theorem forkT_ok {a : Nat} {h k v : ByteArray} {t : Tr} (ha : a < 256) (hh : h.size = 32) (hk : okK k = true) (hv : v.size ≤ 60) (ht : TrOK t) : TrOK (forkT a h k v t) := by
  unfold forkT; split
  · exact ⟨ha, hh, ⟨hk, hv⟩, ht⟩
  · exact ⟨ha, hh, ht, ⟨hk, hv⟩⟩
theorem putT_ok (h : ByteArray) (a : Nat) (k v : ByteArray) (ha : a ≤ 256) (hh : h.size = 32) (hk : okK k = true) (hv : v.size ≤ 60) : ∀ t, TrOK t → TrOK (putT h a k v t)
  | .leaf k' v', ho => by
    unfold putT; split
    · exact ⟨hk, hv⟩
    · exact forkT_ok (by omega) hh hk hv ho
  | .fork b hb l r, ho => by
    unfold putT; split
    · split
      · exact ⟨ho.1, ho.2.1, putT_ok h a k v ha hh hk hv l ho.2.2.1, ho.2.2.2⟩
      · exact ⟨ho.1, ho.2.1, ho.2.2.1, putT_ok h a k v ha hh hk hv r ho.2.2.2⟩
    · exact forkT_ok (by have := ho.1; omega) hh hk hv ho
/-- What with answers: the nodes that were there, the leaf's, and new ones. -/
def WithR (S : Nat → Prop) (q : Nat) (t : Tr) (w : World) (e : Ending) (w' : World) : Prop := ∃ p, e = .returned (.pointer (some ⟨p, 0, none⟩)) ∧ Nd w' (fun b => S b ∨ b = q ∨ (w.heap.size ≤ b ∧ b < w'.heap.size)) p t ∧ Touch S w w'
theorem newFork_nd {w : World} {S : Nat → Prop} {p q a : Nat} {t : Tr} {k v : ByteArray} (hn : Nd w S p t) (ho : t.hash.size = 32) (hS : ∀ b, S b → b < w.heap.size) (hq : Blk w q (lfC k v)) (hqS : ¬ S q) (hk : k.size ≤ 65536) (ha : a < 256) (hxy : bitN (kh k) a ≠ bitN t.hash a) :
    Calls Tryz.prog 115 #[.int .i64 a, .pointer (some ⟨q, 0, none⟩), .pointer (some ⟨p, 0, none⟩)] w fun e w' => WithR S q (forkT a (kh k) k v t) w e w' := by
  refine (newFork_any a q p (kh k) t.hash w ha (kh_size hk) ho hxy hq.1 hn.here.2 (hq.cell 2 rfl) hn.hashC).mono ?_
  rintro e w' ⟨f, rfl, hf, hB, hb⟩
  have hq' := hq.1
  have hnq := hq.below hb
  have hnn := hn.blw hb
  refine ⟨f, rfl, ?_, Touch.ofBelow hb⟩
  have hfl := hB.1
  unfold forkT
  unfold kidsV at hB
  by_cases hb0 : bitN (kh k) a = 0
  · rw [if_pos hb0] at hB ⊢
    exact .fork _ (fun b => b = q) S f a (kh k) (.leaf k v) t q p (.inr (.inr ⟨hf, hfl⟩)) (fun b e => ⟨.inr (.inl e), by omega⟩) (fun b e => ⟨.inl e, by have := hS b e; omega⟩) (fun b e h => hqS (e ▸ h)) hB (.leaf _ q k v rfl hnq) hnn
  · rw [if_neg hb0] at hB ⊢
    exact .fork _ S (fun b => b = q) f a (kh k) t (.leaf k v) p q (.inr (.inr ⟨hf, hfl⟩)) (fun b e => ⟨.inl e, by have := hS b e; omega⟩) (fun b e => ⟨.inr (.inl e), by omega⟩) (fun b e h => hqS (h ▸ e)) hB hnn (.leaf _ q k v rfl hnq)
theorem hash_of_ok {t : Tr} (h : TrOK t) : t.hash.size = 32 := by
  cases t with
  | leaf k v => exact kh_size (by have := (okK_iff.1 h.1).2; omega)
  | fork a hh l r => exact h.2.1
end Go.Proofs.YtnhhnjmjodmacaaGreatDoor.Sha
