/- (*mapNode).without: the map without the leaf that a hash's bits lead to. Four stores into a box. Branches of the call's own: each slice in a block that nothing else of the map has; toBranch makes such ones. -/
import Derived.Test.YtnhhnjmjodmacaaGreatDoorQan10
import Derived.Test.YtnhhnjmjodmacaaGreatDoorQan00
import Derived.Test.YtnhhnjmjodmacaaGreatDoorQan08
import Derived.Deep.Onto
import Derived.Deep.RegionHeld3
namespace Go.Proofs.YtnhhnjmjodmacaaGreatDoor.Sha
open Go.ChangeShapes Go.WideShapes Go.ChangeAt Go.RowKit
set_option linter.unusedVariables false
set_option linter.unusedSimpArgs false
/-- The map without the leaf that a hash's bits lead to. -/
def dropT (h : ByteArray) : Tr → Option Tr
  | .leaf _ _ => none
  | .fork a hh l r => if bitN h a = 0 then (match dropT h l with | none => some r | some l' => some (.fork a hh l' r)) else (match dropT h r with | none => some l | some r' => some (.fork a hh l r'))
theorem dropT_ok (h : ByteArray) : ∀ (t : Tr), TrOK t → OkO (dropT h t)
  | .leaf _ _, ho => trivial
  | .fork a hh l r, ho => by
    have h1 := dropT_ok h l ho.2.2.1
    have h2 := dropT_ok h r ho.2.2.2
    unfold dropT
    split
    · cases he : dropT h l with
      | none => exact ho.2.2.2
      | some l' => rw [he] at h1; exact ⟨ho.1, ho.2.1, h1, ho.2.2.2⟩
    · cases he : dropT h r with
      | none => exact ho.2.2.1
      | some r' => rw [he] at h2; exact ⟨ho.1, ho.2.1, ho.2.2.1, h2⟩
/-- What without answers. -/
def DropR (S : Nat → Prop) (o : Option Tr) (w : World) (e : Ending) (w' : World) : Prop := ∃ pv, e = .returned (.pointer pv) ∧ PtrM w' S pv o ∧ Touch S w w'
set_option maxRecDepth 100000 in
set_option maxHeartbeats 4000000 in
theorem without_any (h : ByteArray) (hh : h.size = 32) : ∀ (t : Tr) (m : Nat) (w : World) (S : Nat → Prop) (p : Nat), Nd w S p t → Rise m t →
    Calls Tryz.prog 133 #[.pointer (some ⟨p, 0, none⟩), .string h] w fun e w' => DropR S (dropT h t) w e w' := by
  intro t
  induction t with
  | leaf k v =>
    intro m w S p hn hr
    cases hn with
    | leaf S p k v h0 h1 =>
      have x3 := h1.cell 3 rfl
      have HG : Hid (DropR S (dropT h (.leaf k v)) w (.returned (.pointer none)) w) := hide ⟨none, rfl, rfl, Touch.refl _ _⟩
      clear h1 hr
      go_enter Tryz.func133, Tryz.ntmps133
      go_wp2_with fail
      go_ret
      exact unhide HG
  | fork a hv l r ihl ihr =>
    intro m w S p hn hr
    cases hn with
    | fork S Sl Sr p a hv l r pl pr h0 h1 h2 h3 h4 h5 h6 =>
      obtain ⟨r0, r1, r2, r3⟩ := hr
      have X := hide h4
      have x3 := h4.cell 3 rfl
      have x4 := h4.cell 4 rfl
      have x5 := h4.cell 5 rfl
      have HB := hide (fun wx => hashBit_any h a wx hh r1)
      have hab : ((a : Int) == 256) = false := by rw [beq_eq_false_iff_ne]; omega
      have HN5 := hide h5
      have HN6 := hide h6
      have HS := hide (And.intro h0 (And.intro h1 (And.intro h2 h3)))
      clear h1 h2 h3 h4 h5 h6 h0
      rcases bitN_01 h a with hb | hb
      · have HC := hide (ihl _ w Sl pl (unhide HN5) r2)
        have HD : Hid (dropT h (.fork a hv l r) = match dropT h l with | none => some r | some l' => some (.fork a hv l' r)) := hide (by conv => lhs; unfold dropT; rw [if_pos hb])
        rw [hb] at HB
        have hwr : IntKind.i64.wrap (1 : Int) = 1 := by decide
        clear ihl ihr
        generalize dropT h (.fork a hv l r) = D at *
        generalize dropT h l = d at *
        go_enter Tryz.func133, Tryz.ntmps133
        go_wp2_with fail
        refine (unhide HB w).mono ?_
        rintro e w9 ⟨rfl, hw9⟩
        subst w9
        go_wp2_with fail
        refine (unhide HC).mono ?_
        rintro e w2 ⟨pv, rfl, hp, hT⟩
        have X2 := (unhide X).kept hT (fun e => ((unhide HS).2.1 p e).2 rfl)
        have NO2 := (unhide HN6).touch hT (fun b hb e => (unhide HS).2.2.2 b e hb)
        have TS : Touch S w w2 := (Touch.refl S w).trans hT (fun b _ e => ((unhide HS).2.1 b e).1)
        have y5 := X2.cell 5 rfl
        have y4 := X2.cell 4 rfl
        have g4 := X2.fro 4
        have HD2 := hide (unhide HD)
        clear x3 x4 x5 HC
        cases d with
        | none =>
          obtain rfl : pv = none := hp
          have HF : Hid (DropR S D w (.returned (.pointer (some ⟨pr, 0, none⟩))) w2) := hide ⟨_, rfl, by rw [show D = some r from unhide HD]; exact ⟨pr, rfl, NO2.mono (fun b hb => ((unhide HS).2.2.1 b hb).1)⟩, TS⟩
          clear NO2 TS X2 hT
          go_wp2_with fail
          go_ret
          exact unhide HF
        | some d' =>
          obtain ⟨q, rfl, hq⟩ := hp
          have HF : Hid (DropR S D w (.returned (.pointer (some ⟨p, 0, none⟩))) (w2.setCell ⟨p, 4, none⟩ (.pointer (some ⟨q, 0, none⟩)))) := hide (by
            have XS := X2.set 4 (.pointer (some ⟨q, 0, none⟩)) (by simp [fkC])
            have tp := (Touch.refl (fun b => b = p) w2).setCell ⟨p, 4, none⟩ (.pointer (some ⟨q, 0, none⟩)) (fun _ => rfl)
            have NK := hq.touch tp (fun b hb e => ((unhide HS).2.1 b hb).2 e)
            have NO := NO2.touch tp (fun b hb e => ((unhide HS).2.2.1 b hb).2 e)
            refine ⟨_, rfl, ?_, TS.trans tp (fun b _ e => by rw [e]; exact (unhide HS).1)⟩
            rw [show D = some (.fork a hv d' r) from unhide HD]
            exact ⟨p, rfl, .fork S Sl Sr p a hv d' r q pr (unhide HS).1 (unhide HS).2.1 (unhide HS).2.2.1 (unhide HS).2.2.2 XS NK NO⟩)
          clear hq NO2 TS X2 hT
          go_wp2_with fail
          go_ret
          exact unhide HF
      · have HC := hide (ihr _ w Sr pr (unhide HN6) r3)
        have HD : Hid (dropT h (.fork a hv l r) = match dropT h r with | none => some l | some r' => some (.fork a hv l r')) := hide (by conv => lhs; unfold dropT; rw [if_neg (by omega)])
        rw [hb] at HB
        have hwr : IntKind.i64.wrap (0 : Int) = 0 := by decide
        clear ihl ihr
        generalize dropT h (.fork a hv l r) = D at *
        generalize dropT h r = d at *
        go_enter Tryz.func133, Tryz.ntmps133
        go_wp2_with fail
        refine (unhide HB w).mono ?_
        rintro e w9 ⟨rfl, hw9⟩
        subst w9
        go_wp2_with fail
        refine (unhide HC).mono ?_
        rintro e w2 ⟨pv, rfl, hp, hT⟩
        have X2 := (unhide X).kept hT (fun e => ((unhide HS).2.2.1 p e).2 rfl)
        have NO2 := (unhide HN5).touch hT (fun b hb e => (unhide HS).2.2.2 b hb e)
        have TS : Touch S w w2 := (Touch.refl S w).trans hT (fun b _ e => ((unhide HS).2.2.1 b e).1)
        have y4 := X2.cell 4 rfl
        have y5 := X2.cell 5 rfl
        have g5 := X2.fro 5
        have HD2 := hide (unhide HD)
        clear x3 x4 x5 HC
        cases d with
        | none =>
          obtain rfl : pv = none := hp
          have HF : Hid (DropR S D w (.returned (.pointer (some ⟨pl, 0, none⟩))) w2) := hide ⟨_, rfl, by rw [show D = some l from unhide HD]; exact ⟨pl, rfl, NO2.mono (fun b hb => ((unhide HS).2.1 b hb).1)⟩, TS⟩
          clear NO2 TS X2 hT
          go_wp2_with fail
          go_ret
          exact unhide HF
        | some d' =>
          obtain ⟨q, rfl, hq⟩ := hp
          have HF : Hid (DropR S D w (.returned (.pointer (some ⟨p, 0, none⟩))) (w2.setCell ⟨p, 5, none⟩ (.pointer (some ⟨q, 0, none⟩)))) := hide (by
            have XS := X2.set 5 (.pointer (some ⟨q, 0, none⟩)) (by simp [fkC])
            have tp := (Touch.refl (fun b => b = p) w2).setCell ⟨p, 5, none⟩ (.pointer (some ⟨q, 0, none⟩)) (fun _ => rfl)
            have NK := hq.touch tp (fun b hb e => ((unhide HS).2.2.1 b hb).2 e)
            have NO := NO2.touch tp (fun b hb e => ((unhide HS).2.1 b hb).2 e)
            refine ⟨_, rfl, ?_, TS.trans tp (fun b _ e => by rw [e]; exact (unhide HS).1)⟩
            rw [show D = some (.fork a hv l d') from unhide HD]
            exact ⟨p, rfl, .fork S Sl Sr p a hv l d' pl q (unhide HS).1 (unhide HS).2.1 (unhide HS).2.2.1 (unhide HS).2.2.2 XS NO NK⟩)
          clear hq NO2 TS X2 hT
          go_wp2_with fail
          go_ret
          exact unhide HF
end Go.Proofs.YtnhhnjmjodmacaaGreatDoor.Sha
namespace Go.Proofs.YtnhhnjmjodmacaaGreatDoor.Sha
open Go.ChangeShapes Go.WideShapes Go.ChangeAt Go.RowKit
set_option linter.unusedVariables false
def set4 (w : World) (R : Nat) (a b c d : Value) : World := (((w.setCell ⟨R, 0, none⟩ a).setCell ⟨R, 1, none⟩ b).setCell ⟨R, 2, none⟩ c).setCell ⟨R, 3, none⟩ d
theorem set4_touch (w : World) (R : Nat) (a b c d : Value) : Touch (fun x => x = R) w (set4 w R a b c d) :=
  ((((Touch.refl (fun x => x = R) w).setCell ⟨R, 0, none⟩ a (fun _ => rfl)).setCell ⟨R, 1, none⟩ b (fun _ => rfl)).setCell ⟨R, 2, none⟩ c (fun _ => rfl)).setCell ⟨R, 3, none⟩ d (fun _ => rfl)
theorem set4_blk {w : World} {R : Nat} {x0 x1 x2 x3 : Value} (h : Blk w R [x0, x1, x2, x3]) (a b c d : Value) : Blk (set4 w R a b c d) R [a, b, c, d] :=
  (((h.set 0 a (by simp)).set 1 b (by simp)).set 2 c (by simp)).set 3 d (by simp)
end Go.Proofs.YtnhhnjmjodmacaaGreatDoor.Sha
namespace Go.Proofs.YtnhhnjmjodmacaaGreatDoor.Sha
open Go.ChangeShapes Go.WideShapes Go.ChangeAt Go.RowKit
set_option linter.unusedVariables false
/-- The cells of a row of branches. -/
def RowIs (xs : List Value) (l : List Br) (kv : Nat → Value) (k : Nat) : Prop :=
  ∀ i, i < k → xs[i * 4]? = some (.string (l.getD i default).key) ∧ xs[i * 4 + 1]? = some (.string (l.getD i default).val) ∧ xs[i * 4 + 2]? = some (.int .i64 (l.getD i default).at_) ∧ xs[i * 4 + 3]? = some (kv i)
/-- The value is a slice of the call's own that holds these branches, and all their slices lie in blocks of S, no two in one. -/
inductive BrO (w : World) : (Nat → Prop) → Value → List Br → Prop
  | nil (S : Nat → Prop) (a : Option Addr) (cap : Nat) : cap ≤ maxLen → BrO w S (.slice a 0 cap) []
  | row (S : Nat → Prop) (g cap : Nat) (l : List Br) (kv : Nat → Value) (xs : List Value) (Si : Nat → Nat → Prop) : 0 < l.length → S g →
      w.ownsRow 0 35 4 (.slice (some ⟨g, 0, none⟩) l.length cap) l.length xs → RowIs xs l kv l.length →
      (∀ i, i < l.length → (l.getD i default).key.size ≤ maxLen ∧ (l.getD i default).val.size ≤ maxLen) →
      (∀ i b, i < l.length → Si i b → S b ∧ b ≠ g) →
      (∀ i j b, i < j → j < l.length → Si i b → ¬ Si j b) →
      (∀ i, i < l.length → BrO w (Si i) (kv i) (l.getD i default).kids) →
      BrO w S (.slice (some ⟨g, 0, none⟩) l.length cap) l
theorem BrO.brs {w : World} {S : Nat → Prop} {v : Value} {l : List Br} (h : BrO w S v l) : Brs S w v l := by
  induction h with
  | nil S a cap hc => exact .nil a cap hc
  | row S g cap l kv xs Si h0 h1 h2 h3 h4 h5 h6 h7 ih =>
    obtain ⟨hl, hc⟩ := id h2
    rcases hc with ⟨hx, _⟩ | ⟨g', cap', cur, hv, hb, hg, hn, hm, hz, ht⟩
    · cases hx
    · simp only [Value.slice.injEq, Option.some.injEq, Addr.mk.injEq] at hv
      obtain ⟨⟨rfl, _, _⟩, _, rfl⟩ := hv
      refine .row g 0 cap l kv h0 hn hm (Array.getElem?_eq_some_iff.1 hg).1 h1 (fun i hi => ?_) h4 (fun i hi => (ih i hi).mono (fun b hb => (h5 i b hi hb).1))
      obtain ⟨e0, e1, e2, e3⟩ := h3 i hi
      rw [Nat.zero_add]
      exact ⟨(h2.cellAt _ (by omega)).trans e0, (h2.cellAt _ (by omega)).trans e1, (h2.cellAt _ (by omega)).trans e2, (h2.cellAt _ (by omega)).trans e3⟩
theorem BrO.touch {w w' : World} {S T : Nat → Prop} {v : Value} {l : List Br} (h : BrO w S v l) (ht : Touch T w w') (hn : ∀ k, S k → ¬ T k) : BrO w' S v l := by
  induction h with
  | nil S a cap hc => exact .nil S a cap hc
  | row S g cap l kv xs Si h0 h1 h2 h3 h4 h5 h6 h7 ih =>
    exact .row S g cap l kv xs Si h0 h1 (own_kept h2 ht (fun k hk => by cases hk; exact hn g h1)) h3 h4 h5 h6 (fun i hi => ih i hi (fun k hk => hn k (h5 i k hi hk).1))
theorem BrO.blw {w w' : World} {S : Nat → Prop} {v : Value} {l : List Br} (h : BrO w S v l) (hb : Below w.heap.size w w') : BrO w' S v l := h.touch (T := fun _ => False) (Touch.ofBelow hb) (fun _ _ h => h)
theorem BrO.mono {w : World} {S T : Nat → Prop} {v : Value} {l : List Br} (h : BrO w S v l) (hst : ∀ k, S k → T k) : BrO w T v l := by
  cases h with
  | nil S a cap hc => exact .nil T a cap hc
  | row S g cap l kv xs Si h0 h1 h2 h3 h4 h5 h6 h7 => exact .row T g cap l kv xs Si h0 (hst g h1) h2 h3 h4 (fun i b hi hb => ⟨hst b (h5 i b hi hb).1, (h5 i b hi hb).2⟩) h6 h7
theorem BrO.shape {w : World} {S : Nat → Prop} {v : Value} {l : List Br} (h : BrO w S v l) : ∃ a cap, v = .slice a l.length cap ∧ l.length ≤ cap ∧ cap ≤ maxLen := h.brs.shape
theorem infoBr : (Tryz.prog.info? 35).map (fun i => (i.zero, i.size, i.bytes)) = some (some (.agg #[.string ⟨#[]⟩, .string ⟨#[]⟩, .int .i64 0, .slice none 0 0]), 4, 64) := by kernel_rfl

end Go.Proofs.YtnhhnjmjodmacaaGreatDoor.Sha
