/- (*mapNode).without: the map without the leaf that a hash's bits lead to. -/
import Derived.Test.YtcmdilmjdnbfkaaDoorBrV
namespace Go.Proofs.YtcmdilmjdnbfkaaDoor.Sha
open Go.ChangeShapes Go.WideShapes Go.ChangeAt Go.RowKit
set_option linter.unusedVariables false
set_option linter.unusedSimpArgs false

/-- The map without the leaf that a hash's bits lead to. -/
def dropT (h : ByteArray) : Tr → Option Tr
  | .leaf _ _ => none
  | .fork a hh l r => if bitN h a = 0 then (match dropT h l with | none => some r | some l' => some (.fork a hh l' r)) else (match dropT h r with | none => some l | some r' => some (.fork a hh l r'))
theorem dropT_ok (h : ByteArray) : ∀ (t : Tr), TrOK t → OkO (dropT h t)
  | .leaf _ _, ho => trivial
  | .fork a hh l r, ho => by
    have h1 := dropT_ok h l ho.2.2.1
    have h2 := dropT_ok h r ho.2.2.2
    unfold dropT
    split
    · cases he : dropT h l with
      | none => exact ho.2.2.2
      | some l' => rw [he] at h1; exact ⟨ho.1, ho.2.1, h1, ho.2.2.2⟩
    · cases he : dropT h r with
      | none => exact ho.2.2.1
      | some r' => rw [he] at h2; exact ⟨ho.1, ho.2.1, ho.2.2.1, h2⟩
/-- What without answers. -/
def DropR (S : Nat → Prop) (o : Option Tr) (w : World) (e : Ending) (w' : World) : Prop := ∃ pv, e = .returned (.pointer pv) ∧ PtrM w' S pv o ∧ Touch S w w'
set_option maxRecDepth 100000 in
set_option maxHeartbeats 4000000 in
theorem without_any (h : ByteArray) (hh : h.size = 32) : ∀ (t : Tr) (m : Nat) (w : World) (S : Nat → Prop) (p : Nat), Nd w S p t → Rise m t →
    Calls Tryd.prog 54 #[.pointer (some ⟨p, 0, none⟩), .string h] w fun e w' => DropR S (dropT h t) w e w' := by
  intro t
  induction t with
  | leaf k v =>
    intro m w S p hn hr
    cases hn with
    | leaf S p k v h0 h1 =>
      have x3 := h1.cell 3 rfl
      have HG : Hid (DropR S (dropT h (.leaf k v)) w (.returned (.pointer none)) w) := hide ⟨none, rfl, rfl, Touch.refl _ _⟩
      clear h1 hr
      go_enter Tryd.func54, Tryd.ntmps54
      go_wp2_with fail
      go_ret
      exact unhide HG
  | fork a hv l r ihl ihr =>
    intro m w S p hn hr
    cases hn with
    | fork S Sl Sr p a hv l r pl pr h0 h1 h2 h3 h4 h5 h6 =>
      obtain ⟨r0, r1, r2, r3⟩ := hr
      have X := hide h4
      have x3 := h4.cell 3 rfl
      have x4 := h4.cell 4 rfl
      have x5 := h4.cell 5 rfl
      have HB := hide (fun wx => hashBit_any h a wx hh r1)
      have hab : ((a : Int) == 256) = false := by rw [beq_eq_false_iff_ne]; omega
      have HN5 := hide h5
      have HN6 := hide h6
      have HS := hide (And.intro h0 (And.intro h1 (And.intro h2 h3)))
      clear h1 h2 h3 h4 h5 h6 h0
      rcases bitN_01 h a with hb | hb
      · have HC := hide (ihl _ w Sl pl (unhide HN5) r2)
        have HD : Hid (dropT h (.fork a hv l r) = match dropT h l with | none => some r | some l' => some (.fork a hv l' r)) := hide (by conv => lhs; unfold dropT; rw [if_pos hb])
        rw [hb] at HB
        have hwr : IntKind.i64.wrap (1 : Int) = 1 := by decide
        clear ihl ihr
        generalize dropT h (.fork a hv l r) = D at *
        generalize dropT h l = d at *
        go_enter Tryd.func54, Tryd.ntmps54
        go_wp2_with fail
        refine (unhide HB w).mono ?_
        rintro e w9 ⟨rfl, hw9⟩
        subst w9
        go_wp2_with fail
        refine (unhide HC).mono ?_
        rintro e w2 ⟨pv, rfl, hp, hT⟩
        have X2 := (unhide X).kept hT (fun e => ((unhide HS).2.1 p e).2 rfl)
        have NO2 := (unhide HN6).touch hT (fun b hb e => (unhide HS).2.2.2 b e hb)
        have TS : Touch S w w2 := (Touch.refl S w).trans hT (fun b _ e => ((unhide HS).2.1 b e).1)
        have y5 := X2.cell 5 rfl
        have y4 := X2.cell 4 rfl
        have g4 := X2.fro 4
        have HD2 := hide (unhide HD)
        clear x3 x4 x5 HC
        cases d with
        | none =>
          obtain rfl : pv = none := hp
          have HF : Hid (DropR S D w (.returned (.pointer (some ⟨pr, 0, none⟩))) w2) := hide ⟨_, rfl, by rw [show D = some r from unhide HD]; exact ⟨pr, rfl, NO2.mono (fun b hb => ((unhide HS).2.2.1 b hb).1)⟩, TS⟩
          clear NO2 TS X2 hT
          go_wp2_with fail
          go_ret
          exact unhide HF
        | some d' =>
          obtain ⟨q, rfl, hq⟩ := hp
          have HF : Hid (DropR S D w (.returned (.pointer (some ⟨p, 0, none⟩))) (w2.setCell ⟨p, 4, none⟩ (.pointer (some ⟨q, 0, none⟩)))) := hide (by
            have XS := X2.set 4 (.pointer (some ⟨q, 0, none⟩)) (by simp [fkC])
            have tp := (Touch.refl (fun b => b = p) w2).setCell ⟨p, 4, none⟩ (.pointer (some ⟨q, 0, none⟩)) (fun _ => rfl)
            have NK := hq.touch tp (fun b hb e => ((unhide HS).2.1 b hb).2 e)
            have NO := NO2.touch tp (fun b hb e => ((unhide HS).2.2.1 b hb).2 e)
            refine ⟨_, rfl, ?_, TS.trans tp (fun b _ e => by rw [e]; exact (unhide HS).1)⟩
            rw [show D = some (.fork a hv d' r) from unhide HD]
            exact ⟨p, rfl, .fork S Sl Sr p a hv d' r q pr (unhide HS).1 (unhide HS).2.1 (unhide HS).2.2.1 (unhide HS).2.2.2 XS NK NO⟩)
          clear hq NO2 TS X2 hT
          go_wp2_with fail
          go_ret
          exact unhide HF
      · have HC := hide (ihr _ w Sr pr (unhide HN6) r3)
        have HD : Hid (dropT h (.fork a hv l r) = match dropT h r with | none => some l | some r' => some (.fork a hv l r')) := hide (by conv => lhs; unfold dropT; rw [if_neg (by omega)])
        rw [hb] at HB
        have hwr : IntKind.i64.wrap (0 : Int) = 0 := by decide
        clear ihl ihr
        generalize dropT h (.fork a hv l r) = D at *
        generalize dropT h r = d at *
        go_enter Tryd.func54, Tryd.ntmps54
        go_wp2_with fail
        refine (unhide HB w).mono ?_
        rintro e w9 ⟨rfl, hw9⟩
        subst w9
        go_wp2_with fail
        refine (unhide HC).mono ?_
        rintro e w2 ⟨pv, rfl, hp, hT⟩
        have X2 := (unhide X).kept hT (fun e => ((unhide HS).2.2.1 p e).2 rfl)
        have NO2 := (unhide HN5).touch hT (fun b hb e => (unhide HS).2.2.2 b hb e)
        have TS : Touch S w w2 := (Touch.refl S w).trans hT (fun b _ e => ((unhide HS).2.2.1 b e).1)
        have y4 := X2.cell 4 rfl
        have y5 := X2.cell 5 rfl
        have g5 := X2.fro 5
        have HD2 := hide (unhide HD)
        clear x3 x4 x5 HC
        cases d with
        | none =>
          obtain rfl : pv = none := hp
          have HF : Hid (DropR S D w (.returned (.pointer (some ⟨pl, 0, none⟩))) w2) := hide ⟨_, rfl, by rw [show D = some l from unhide HD]; exact ⟨pl, rfl, NO2.mono (fun b hb => ((unhide HS).2.1 b hb).1)⟩, TS⟩
          clear NO2 TS X2 hT
          go_wp2_with fail
          go_ret
          exact unhide HF
        | some d' =>
          obtain ⟨q, rfl, hq⟩ := hp
          have HF : Hid (DropR S D w (.returned (.pointer (some ⟨p, 0, none⟩))) (w2.setCell ⟨p, 5, none⟩ (.pointer (some ⟨q, 0, none⟩)))) := hide (by
            have XS := X2.set 5 (.pointer (some ⟨q, 0, none⟩)) (by simp [fkC])
            have tp := (Touch.refl (fun b => b = p) w2).setCell ⟨p, 5, none⟩ (.pointer (some ⟨q, 0, none⟩)) (fun _ => rfl)
            have NK := hq.touch tp (fun b hb e => ((unhide HS).2.2.1 b hb).2 e)
            have NO := NO2.touch tp (fun b hb e => ((unhide HS).2.1 b hb).2 e)
            refine ⟨_, rfl, ?_, TS.trans tp (fun b _ e => by rw [e]; exact (unhide HS).1)⟩
            rw [show D = some (.fork a hv l d') from unhide HD]
            exact ⟨p, rfl, .fork S Sl Sr p a hv l d' pl q (unhide HS).1 (unhide HS).2.1 (unhide HS).2.2.1 (unhide HS).2.2.2 XS NO NK⟩)
          clear hq NO2 TS X2 hT
          go_wp2_with fail
          go_ret
          exact unhide HF
end Go.Proofs.YtcmdilmjdnbfkaaDoor.Sha
