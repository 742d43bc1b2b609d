/- Right maps, pure: what a branch that is right looks like; its root. -/
import Derived.Test.YtnajpeaieeaflaaDoorBrM
namespace Go.Proofs.YtnajpeaieeaflaaDoor.Sha
open Go.ChangeShapes Go.WideShapes Go.ChangeAt Go.RowKit
set_option linter.unusedVariables false

/-- The branch of a right map. -/
def Tr.toBr : Tr → Br
  | .leaf k v => .mk k v 256 []
  | .fork a _ l r => .mk ⟨#[]⟩ ⟨#[]⟩ a [l.toBr, r.toBr]
def TrOK : Tr → Prop
  | .leaf k v => okK k = true ∧ v.size ≤ 60
  | .fork a h l r => a < 256 ∧ h.size = 32 ∧ TrOK l ∧ TrOK r
theorem readV_br : ∀ (n : Nat) (b : Br), SizeOf.sizeOf b ≤ n → ∀ (least : Int) (room : Nat) (t : Tr) (r : Nat), 0 ≤ least → readV b least room = some (t, r) → b = t.toBr ∧ TrOK t := by
  intro n
  induction n with
  | zero => intro b hb; exact absurd hb (by cases b; simp only [Br.mk.sizeOf_spec]; omega)
  | succ n ih =>
    intro b hb least room t r hl h
    obtain ⟨k, v, a, ks⟩ := b
    by_cases ha : a = 256
    · rw [readV_leaf ha] at h
      split at h
      · rename_i hc
        obtain ⟨h1, h2, h3, h4⟩ := hc
        obtain rfl := List.eq_nil_of_length_eq_zero h3
        simp only [Option.some.injEq, Prod.mk.injEq] at h
        obtain ⟨rfl, rfl⟩ := h
        subst ha
        exact ⟨rfl, h1, h2⟩
      · cases h
    · by_cases hc : least ≤ a ∧ a ≤ 255 ∧ ks.length = 2 ∧ k.size = 0 ∧ v.size = 0
      · obtain ⟨b0, b1, rfl⟩ := two_of hc.2.2.1
        rw [readV_fork ⟨hc.1, hc.2.1, hc.2.2.2.1, hc.2.2.2.2⟩] at h
        have z0 := kid_lt (k := k) (v := v) (a := a) (l := [b0, b1]) (b := b0) (by simp)
        have z1 := kid_lt (k := k) (v := v) (a := a) (l := [b0, b1]) (b := b1) (by simp)
        cases h0 : readV b0 (a + 1) room with
        | none => rw [h0] at h; cases h
        | some p0 =>
          obtain ⟨t0, r0⟩ := p0
          rw [h0] at h
          dsimp only at h
          cases h1 : readV b1 (a + 1) r0 with
          | none => rw [h1] at h; cases h
          | some p1 =>
            obtain ⟨t1, r1⟩ := p1
            rw [h1] at h
            dsimp only at h
            split at h
            · simp only [Option.some.injEq, Prod.mk.injEq] at h
              obtain ⟨rfl, rfl⟩ := h
              obtain ⟨e0, o0⟩ := ih b0 (by omega) _ _ _ _ (by omega) h0
              obtain ⟨e1, o1⟩ := ih b1 (by omega) _ _ _ _ (by omega) h1
              refine ⟨?_, by omega, tr_size (by omega) h0, o0, o1⟩
              show Br.mk k v a [b0, b1] = .mk ⟨#[]⟩ ⟨#[]⟩ (a.toNat : Int) [t0.toBr, t1.toBr]
              rw [empty_size hc.2.2.2.1, empty_size hc.2.2.2.2, ← e0, ← e1, show (a.toNat : Int) = a by omega]
            · cases h
      · rw [readV_no ha hc] at h; cases h
/-- The branch of a map, or of an empty one. -/
def brOf : Option Tr → Br
  | none => .mk ⟨#[]⟩ ⟨#[]⟩ 0 []
  | some t => t.toBr
def OkO : Option Tr → Prop
  | none => True
  | some t => TrOK t
theorem mapV_br {b : Br} {o : Option Tr} (h : mapV b = some o) : b = brOf o ∧ OkO o := by
  unfold mapV at h
  split at h
  · rename_i he
    cases h
    obtain ⟨k, v, a, l⟩ := b
    obtain ⟨rfl, rfl, rfl, h4⟩ := (empty_iff k v a l).1 he
    rw [List.eq_nil_of_length_eq_zero h4]
    exact ⟨rfl, trivial⟩
  · cases hr : readV b 0 40 with
    | none => rw [hr] at h; cases h
    | some p =>
      obtain ⟨t, r⟩ := p
      rw [hr] at h
      cases h
      exact readV_br _ b (Nat.le_refl _) 0 40 t r (by omega) hr
/-- The root of a map. -/
def lfR (k v : ByteArray) : ByteArray := hashV (0 :: (k.size : Int) :: (bytesI k ++ bytesI v))
def fkR (a : Nat) (x y : ByteArray) : ByteArray := hashV (1 :: (a : Int) :: (bytesI x ++ bytesI y))
def trR : Tr → ByteArray
  | .leaf k v => lfR k v
  | .fork a _ l r => fkR a (trR l) (trR r)
def rootR : Option Tr → ByteArray
  | none => hashV [2]
  | some t => trR t
theorem lfR_size {k v : ByteArray} (hk : k.size ≤ 24) (hv : v.size ≤ 60) : (lfR k v).size = 32 := hash_size (by simp [bytesI_len]; omega)
theorem fkR_size {a : Nat} {x y : ByteArray} (hx : x.size = 32) (hy : y.size = 32) : (fkR a x y).size = 32 := hash_size (by simp [bytesI_len, hx, hy])
theorem trR_size : ∀ t : Tr, TrOK t → (trR t).size = 32
  | .leaf k v, h => lfR_size (okK_iff.1 h.1).2 h.2
  | .fork a _ l r, h => fkR_size (trR_size l h.2.2.1) (trR_size r h.2.2.2)
theorem not_empty {t : Tr} (h : TrOK t) : emptyBr t.toBr = false := by
  cases t with
  | leaf k v =>
    cases he : emptyBr (Tr.leaf k v).toBr
    · rfl
    · have := (empty_iff k v 256 []).1 he
      omega
  | fork a hh l r =>
    cases he : emptyBr (Tr.fork a hh l r).toBr
    · rfl
    · have := ((empty_iff ⟨#[]⟩ ⟨#[]⟩ a [l.toBr, r.toBr]).1 he).2.2.2
      simp at this
end Go.Proofs.YtnajpeaieeaflaaDoor.Sha
