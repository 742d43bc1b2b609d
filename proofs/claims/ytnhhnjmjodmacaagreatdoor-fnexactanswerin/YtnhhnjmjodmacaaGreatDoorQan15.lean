/- Pure: what a put and a drop keep of a map: bits that rise, hashes apart. -/
import Derived.Test.YtnhhnjmjodmacaaGreatDoorQan10
import Derived.Test.YtnhhnjmjodmacaaGreatDoorQan11
import Derived.Test.YtnhhnjmjodmacaaGreatDoorQan14
namespace Go.Proofs.YtnhhnjmjodmacaaGreatDoor.Sha
open Go.ChangeShapes Go.WideShapes Go.ChangeAt Go.RowKit
set_option linter.unusedVariables false
theorem fd_alike (x y : ByteArray) (i : Nat) (h : i < fd x y) : bitN x i = bitN y i := (fdF_facts x y 256 0).2.2.1 i (Nat.zero_le _) h
theorem fd_apart (x y : ByteArray) (h : fd x y < 256) : bitN x (fd x y) ≠ bitN y (fd x y) := (fdF_facts x y 256 0).2.2.2 (by unfold fd at h; omega)
theorem Rise.up {m n : Nat} {t : Tr} (h : Rise m t) (hn : n ≤ t.at_) : Rise n t := by
  cases t with
  | leaf k v => exact hn
  | fork a hh l r => exact ⟨hn, h.2⟩
/-- A new leaf beside a map whose hash parts from its own at a bit ahead of the map's. -/
theorem forkT_facts {a m : Nat} {k v : ByteArray} {t : Tr} (ha : a < 256) (hm : m ≤ a) (hat : a < t.at_) (hr : Rise m t) (hs : Sep t) (h1 : ∀ i, i < a → bitN (kh k) i = bitN t.hash i) (h2 : bitN (kh k) a ≠ bitN t.hash a) :
    Rise m (forkT a (kh k) k v t) ∧ Sep (forkT a (kh k) k v t) ∧ (forkT a (kh k) k v t).hash = kh k := by
  have hup : Rise (a + 1) t := hr.up (by omega)
  have hl : Rise (a + 1) (.leaf k v) := show a + 1 ≤ 256 by omega
  unfold forkT
  split
  · rename_i hb
    exact ⟨⟨hm, ha, hl, hup⟩, ⟨fun _ _ => rfl, (fd_iff (kh k) t.hash a ha).2 ⟨h1, h2⟩, hb, trivial, hs⟩, rfl⟩
  · rename_i hb
    have hb2 : bitN t.hash a = 0 := by
      rcases bitN_01 t.hash a with e | e
      · exact e
      · rcases bitN_01 (kh k) a with e' | e'
        · exact absurd e' hb
        · exact absurd (e'.trans e.symm) h2
    exact ⟨⟨hm, ha, hup, hl⟩, ⟨h1, (fd_iff t.hash (kh k) a ha).2 ⟨fun i hi => (h1 i hi).symm, fun e => h2 e.symm⟩, hb2, hs, trivial⟩, rfl⟩
theorem putT_facts (k v : ByteArray) : ∀ (t : Tr) (m : Nat), Rise m t → Sep t → ∀ at_, at_ = fd (kh (leadL (kh k) t).1) (kh k) → m ≤ at_ →
    Rise m (putT (kh k) at_ k v t) ∧ Sep (putT (kh k) at_ k v t) ∧ ∀ i, i < at_ → i < t.at_ → bitN (putT (kh k) at_ k v t).hash i = bitN t.hash i
  | .leaf k' v', m, hr, hs, at_, he, hm => by
    have hle : at_ ≤ 256 := by rw [he]; exact fd_le _ _
    have hal : ∀ i, i < at_ → bitN (kh k) i = bitN (kh k') i := fun i hi => (fd_alike (kh k') (kh k) i (by rw [he] at hi; exact hi)).symm
    unfold putT
    by_cases h256 : at_ = 256
    · rw [if_pos h256]
      exact ⟨show m ≤ 256 by omega, trivial, fun i hi _ => hal i hi⟩
    · rw [if_neg h256]
      have hap : bitN (kh k) at_ ≠ bitN (kh k') at_ := by
        have h9 := fd_apart (kh k') (kh k) (by have h8 : at_ = fd (kh k') (kh k) := he; omega)
        have h8 : at_ = fd (kh k') (kh k) := he
        rw [← h8] at h9
        exact fun e => h9 e.symm
      obtain ⟨f1, f2, f3⟩ := forkT_facts (v := v) (t := .leaf k' v') (m := m) (show at_ < 256 by omega) hm (show at_ < 256 by omega) hr hs hal hap
      exact ⟨f1, f2, fun i hi _ => by rw [f3]; exact hal i hi⟩
  | .fork a hh l r, m, hr, hs, at_, he, hm => by
    have hbit := lead_bit (kh k) hr hs
    have hlike := lead_alike (kh k) (.fork a hh l r) m hr hs
    have hr' := hr
    have hs' := hs
    obtain ⟨r0, r1, r2, r3⟩ := hr
    obtain ⟨s0, s1, s2, s3, s4⟩ := hs
    have hll := r2.le
    have hrl := r3.le
    have hfd := (fd_iff l.hash r.hash a r1).1 s1
    have hne : at_ ≠ a := fun e => by
      have h9 := fd_apart (kh (leadL (kh k) (.fork a hh l r)).1) (kh k) (by rw [← he, e]; exact r1)
      rw [← he, e] at h9
      exact h9 hbit
    unfold putT
    by_cases hlt : a < at_
    · rw [if_pos hlt]
      by_cases hb : bitN (kh k) a = 0
      · rw [if_pos hb]
        have hel : at_ = fd (kh (leadL (kh k) l).1) (kh k) := by rw [he]; conv => lhs; unfold leadL; rw [if_pos hb]
        obtain ⟨f1, f2, f3⟩ := putT_facts k v l (a + 1) r2 s3 at_ hel (by omega)
        have g : ∀ i, i ≤ a → bitN (putT (kh k) at_ k v l).hash i = bitN l.hash i := fun i hi => f3 i (by omega) (by omega)
        refine ⟨⟨r0, r1, f1, r3⟩, ⟨fun i hi => by rw [g i (by omega)]; exact s0 i hi, (fd_iff _ _ a r1).2 ⟨fun i hi => by rw [g i (by omega)]; exact hfd.1 i hi, by rw [g a (Nat.le_refl _)]; exact hfd.2⟩, by rw [g a (Nat.le_refl _)]; exact s2, f2, s4⟩, fun i _ _ => rfl⟩
      · rw [if_neg hb]
        have hel : at_ = fd (kh (leadL (kh k) r).1) (kh k) := by rw [he]; conv => lhs; unfold leadL; rw [if_neg hb]
        obtain ⟨f1, f2, f3⟩ := putT_facts k v r (a + 1) r3 s4 at_ hel (by omega)
        have g : ∀ i, i ≤ a → bitN (putT (kh k) at_ k v r).hash i = bitN r.hash i := fun i hi => f3 i (by omega) (by omega)
        refine ⟨⟨r0, r1, r2, f1⟩, ⟨s0, (fd_iff _ _ a r1).2 ⟨fun i hi => by rw [g i (by omega)]; exact hfd.1 i hi, by rw [g a (Nat.le_refl _)]; exact hfd.2⟩, s2, s3, f2⟩, fun i _ _ => rfl⟩
    · rw [if_neg hlt]
      have hal : ∀ i, i < at_ → bitN (kh k) i = bitN hh i := fun i hi => by
        rw [← fd_alike (kh (leadL (kh k) (.fork a hh l r)).1) (kh k) i (by rw [← he]; exact hi)]
        exact hlike i (show i < a by omega)
      have hap : bitN (kh k) at_ ≠ bitN hh at_ := by
        have h9 := fd_apart (kh (leadL (kh k) (.fork a hh l r)).1) (kh k) (by rw [← he]; omega)
        rw [← he] at h9
        rw [hlike at_ (show at_ < a by omega)] at h9
        exact fun e => h9 e.symm
      obtain ⟨f1, f2, f3⟩ := forkT_facts (v := v) (t := .fork a hh l r) (m := m) (show at_ < 256 by omega) hm (show at_ < a by omega) hr' hs' hal hap
      exact ⟨f1, f2, fun i hi _ => by rw [f3]; exact hal i hi⟩
theorem putO_rise {o : Option Tr} (key val : ByteArray) (hr : RiseO o) (hs : SepO o) : RiseO (some (putO o key val)) ∧ Sep (putO o key val) := by
  cases o with
  | none => exact ⟨Nat.zero_le _, trivial⟩
  | some t =>
    have h := putT_facts key val t 0 hr hs.1 (putAt t key) rfl (Nat.zero_le _)
    exact ⟨h.1, h.2.1⟩
/-- What is left of a map without a key's leaf. -/
def DropF (m : Nat) (t : Tr) : Option Tr → Prop
  | none => True
  | some t' => Rise m t' ∧ Sep t' ∧ ∀ i, i < t.at_ → bitN t'.hash i = bitN t.hash i
theorem dropT_facts (h : ByteArray) : ∀ (t : Tr) (m : Nat), Rise m t → Sep t → DropF m t (dropT h t)
  | .leaf k v, m, hr, hs => trivial
  | .fork a hh l r, m, hr, hs => by
    obtain ⟨r0, r1, r2, r3⟩ := hr
    obtain ⟨s0, s1, s2, s3, s4⟩ := hs
    have hll := r2.le
    have hrl := r3.le
    have hfd := (fd_iff l.hash r.hash a r1).1 s1
    have i1 := dropT_facts h l (a + 1) r2 s3
    have i2 := dropT_facts h r (a + 1) r3 s4
    unfold dropT
    split
    · cases hd : dropT h l with
      | none => exact ⟨r3.up (by omega), s4, fun i hi => ((s0 i hi).trans (hfd.1 i hi)).symm⟩
      | some l' =>
        rw [hd] at i1
        obtain ⟨f1, f2, f3⟩ := i1
        have g : ∀ i, i ≤ a → bitN l'.hash i = bitN l.hash i := fun i hi => f3 i (by omega)
        exact ⟨⟨r0, r1, f1, r3⟩, ⟨fun i hi => by rw [g i (by omega)]; exact s0 i hi, (fd_iff _ _ a r1).2 ⟨fun i hi => by rw [g i (by omega)]; exact hfd.1 i hi, by rw [g a (Nat.le_refl _)]; exact hfd.2⟩, by rw [g a (Nat.le_refl _)]; exact s2, f2, s4⟩, fun i _ => rfl⟩
    · cases hd : dropT h r with
      | none => exact ⟨r2.up (by omega), s3, fun i hi => (s0 i hi).symm⟩
      | some r' =>
        rw [hd] at i2
        obtain ⟨f1, f2, f3⟩ := i2
        have g : ∀ i, i ≤ a → bitN r'.hash i = bitN r.hash i := fun i hi => f3 i (by omega)
        exact ⟨⟨r0, r1, r2, f1⟩, ⟨s0, (fd_iff _ _ a r1).2 ⟨fun i hi => by rw [g i (by omega)]; exact hfd.1 i hi, by rw [g a (Nat.le_refl _)]; exact hfd.2⟩, s2, s3, f2⟩, fun i _ => rfl⟩
end Go.Proofs.YtnhhnjmjodmacaaGreatDoor.Sha
