/- The leaf that a hash's bits lead to: lead, find; openMap; impl.MapGet. -/
import Derived.Test.YtnajpeaieeaflaaDoorBrT
import Derived.Test.YtnajpeaieeaflaaDoorBrS
import Derived.Test.YtnajpeaieeaflaaDoorBrC
namespace Go.Proofs.YtnajpeaieeaflaaDoor.Sha
open Go.ChangeShapes Go.WideShapes Go.ChangeAt Go.RowKit
set_option linter.unusedVariables false
set_option linter.unusedSimpArgs false

/-- The bits' numbers rise from the top down. -/
def Rise : Nat → Tr → Prop
  | n, .leaf _ _ => n ≤ 256
  | n, .fork a _ l r => n ≤ a ∧ a < 256 ∧ Rise (a + 1) l ∧ Rise (a + 1) r
def Tr.at_ : Tr → Nat
  | .leaf _ _ => 256
  | .fork a _ _ _ => a
theorem Rise.le {n : Nat} {t : Tr} (h : Rise n t) : n ≤ t.at_ := by
  cases t with
  | leaf k v => exact h
  | fork a hh l r => exact h.1
theorem Rise.le256 {n : Nat} {t : Tr} (h : Rise n t) : t.at_ ≤ 256 := by
  cases t with
  | leaf k v => exact Nat.le_refl _
  | fork a hh l r => exact Nat.le_of_lt h.2.1
theorem readV_rise : ∀ (n : Nat) (b : Br), SizeOf.sizeOf b ≤ n → ∀ (least : Int) (room : Nat) (t : Tr) (r : Nat), 0 ≤ least → least ≤ 256 → readV b least room = some (t, r) → Rise least.toNat t := by
  intro n
  induction n with
  | zero => intro b hb; exact absurd hb (by cases b; simp only [Br.mk.sizeOf_spec]; omega)
  | succ n ih =>
    intro b hb least room t r hl hl2 h
    obtain ⟨k, v, a, ks⟩ := b
    by_cases ha : a = 256
    · rw [readV_leaf ha] at h
      split at h
      · cases h
        show least.toNat ≤ 256
        omega
      · cases h
    · by_cases hc : least ≤ a ∧ a ≤ 255 ∧ ks.length = 2 ∧ k.size = 0 ∧ v.size = 0
      · obtain ⟨b0, b1, rfl⟩ := two_of hc.2.2.1
        rw [readV_fork ⟨hc.1, hc.2.1, hc.2.2.2.1, hc.2.2.2.2⟩] at h
        have z0 := kid_lt (k := k) (v := v) (a := a) (l := [b0, b1]) (b := b0) (by simp)
        have z1 := kid_lt (k := k) (v := v) (a := a) (l := [b0, b1]) (b := b1) (by simp)
        cases h0 : readV b0 (a + 1) room with
        | none => rw [h0] at h; cases h
        | some p0 =>
          obtain ⟨t0, r0⟩ := p0
          rw [h0] at h
          dsimp only at h
          cases h1 : readV b1 (a + 1) r0 with
          | none => rw [h1] at h; cases h
          | some p1 =>
            obtain ⟨t1, r1⟩ := p1
            rw [h1] at h
            dsimp only at h
            split at h
            · cases h
              have e0 := ih b0 (by omega) _ _ _ _ (by omega) (by omega) h0
              have e1 := ih b1 (by omega) _ _ _ _ (by omega) (by omega) h1
              rw [show (a + 1).toNat = a.toNat + 1 by omega] at e0 e1
              exact ⟨by omega, by omega, e0, e1⟩
            · cases h
      · rw [readV_no ha hc] at h; cases h
def RiseO : Option Tr → Prop
  | none => True
  | some t => Rise 0 t
theorem mapV_rise {b : Br} {o : Option Tr} (h : mapV b = some o) : RiseO o := by
  unfold mapV at h
  split at h
  · cases h; trivial
  · cases hr : readV b 0 40 with
    | none => rw [hr] at h; cases h
    | some p =>
      obtain ⟨t, r⟩ := p
      rw [hr] at h
      cases h
      exact readV_rise _ b (Nat.le_refl _) 0 40 t r (by omega) (by omega) hr
/-- The leaf that a hash's bits lead to. -/
def leadL (h : ByteArray) : Tr → ByteArray × ByteArray
  | .leaf k v => (k, v)
  | .fork a _ l r => if bitN h a = 0 then leadL h l else leadL h r
theorem lead_ok (h : ByteArray) : ∀ t, TrOK t → okK (leadL h t).1 = true ∧ (leadL h t).2.size ≤ 60
  | .leaf k v, ho => ho
  | .fork a hh l r, ho => by
    unfold leadL
    split
    · exact lead_ok h l ho.2.2.1
    · exact lead_ok h r ho.2.2.2
/-- The number in the fourth cell of a block. -/
def atCell (v : Value) (w : World) : Nat := match v with
  | .pointer (some ad) => (match w.cell? ⟨ad.block, 3, none⟩ with
    | some (.int _ a) => a.toNat
    | _ => 0)
  | _ => 0
theorem atCell_is {p : Nat} {w : World} {a : Nat} (h : w.cell? ⟨p, 3, none⟩ = some (.int .i64 a)) : atCell (.pointer (some ⟨p, 0, none⟩)) w = a := by
  unfold atCell
  dsimp only
  rw [h]
  simp
theorem Nd.atC {w : World} {S : Nat → Prop} {p : Nat} {t : Tr} (h : Nd w S p t) : w.cell? ⟨p, 3, none⟩ = some (.int .i64 t.at_) := by
  cases h with
  | leaf S p k v h0 h1 => exact h1.cell 3 rfl
  | fork S Sl Sr p a h l r pl pr h0 h1 h2 h3 h4 => exact h4.cell 3 rfl
set_option maxRecDepth 100000 in
set_option maxHeartbeats 2000000 in
theorem lead_any (h : ByteArray) (hh : h.size = 32) (w : World) (S : Nat → Prop) (p : Nat) (t : Tr) (hn : Nd w S p t) (hr : Rise 0 t) :
    Calls Tryd.prog 62 #[.pointer (some ⟨p, 0, none⟩), .string h] w fun e w' => ∃ q, e = .returned (.pointer (some ⟨q, 0, none⟩)) ∧ Blk w' q (lfC (leadL h t).1 (leadL h t).2) ∧ ∃ n, w' = w.drewN n := by
  have HN := hide hn
  have HR := hide hr
  clear hn hr
  go_enter Tryd.func62, Tryd.ntmps62
  go_wp2_with fail
  go_loopw [0] (fun nv wr => ∃ (p' m : Nat) (t' : Tr) (S' : Nat → Prop), nv = .pointer (some ⟨p', 0, none⟩) ∧ Nd wr S' p' t' ∧ Rise m t' ∧ leadL h t' = leadL h t ∧ ∃ n, wr = w.drewN n) (fun nv wr => 256 - atCell nv wr)
  case atStart => exact ⟨p, 0, t, S, rfl, unhide HN, unhide HR, rfl, 0, rfl⟩
  case round =>
    clear HN HR
    obtain ⟨p', m, t', S', rfl, hn, hr, hl, n, hw⟩ := hrel
    have HW := hide hw
    have HL := hide hl
    have HA := hide (atCell_is hn.atC)
    clear hw hl
    cases hn with
    | leaf S' p' k v h0 h1 =>
      have x3 := h1.cell 3 rfl
      have X := hide h1
      clear h1 hr HA
      go_wp2_with fail
      go_ret
      refine ⟨p', rfl, ?_, n, unhide HW⟩
      rw [← unhide HL]
      exact unhide X
    | fork S' Sl Sr p' a hv l r pl pr h0 h1 h2 h3 h4 h5 h6 =>
      obtain ⟨r0, r1, r2, r3⟩ := hr
      have x3 := h4.cell 3 rfl
      have x4 := h4.cell 4 rfl
      have x5 := h4.cell 5 rfl
      have HB := hide (fun wx => hashBit_any h a wx hh r1)
      have ha : (a : Int) < 256 := by omega
      have HE : Hid (leadL h (.fork a hv l r) = if bitN h a = 0 then leadL h l else leadL h r) := rfl
      have HN5 := hide h5
      have HN6 := hide h6
      clear h1 h2 h3 h4 h5 h6 h0
      rcases bitN_01 h a with hb | hb
      · rw [hb] at HB HE
        rw [if_pos rfl] at HE
        go_wp2_with fail
        go_quiet (first | (go_at_call 21; exact Calls.quiet_of_same (unhide HB _)))
        have N2 := hide ((unhide HN5).blw (below_drewN (Below.refl _ wr) nq))
        have HW2 : Hid (∃ n', wr.drewN nq = w.drewN n') := hide ⟨n + nq, by rw [unhide HW, World.drewN_drewN]⟩
        generalize wr.drewN nq = w2 at *
        go_wp2_with fail
        have hat := atCell_is (unhide N2).atC
        have hle := r2.le
        have hle2 := r2.le256
        have hA := unhide HA
        refine ⟨⟨pl, a + 1, l, Sl, rfl, unhide N2, r2, ?_, unhide HW2⟩, ?_⟩
        · rw [← unhide HL, unhide HE]
        · rw [hat, hA]; show 256 - l.at_ < 256 - a; omega
      · rw [hb] at HB HE
        rw [if_neg (by omega)] at HE
        go_wp2_with fail
        go_quiet (first | (go_at_call 21; exact Calls.quiet_of_same (unhide HB _)))
        have N2 := hide ((unhide HN6).blw (below_drewN (Below.refl _ wr) nq))
        have HW2 : Hid (∃ n', wr.drewN nq = w.drewN n') := hide ⟨n + nq, by rw [unhide HW, World.drewN_drewN]⟩
        generalize wr.drewN nq = w2 at *
        go_wp2_with fail
        have hat := atCell_is (unhide N2).atC
        have hle := r3.le
        have hle2 := r3.le256
        have hA := unhide HA
        refine ⟨⟨pr, a + 1, r, Sr, rfl, unhide N2, r3, ?_, unhide HW2⟩, ?_⟩
        · rw [← unhide HL, unhide HE]
        · rw [hat, hA]; show 256 - r.at_ < 256 - a; omega
end Go.Proofs.YtnajpeaieeaflaaDoor.Sha
