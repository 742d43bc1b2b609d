/- Maps, pure: what reading a branch makes of it, and what the specification counts: both say the same. -/
import Derived.Test.YtnajpeaieeaflaaDoorShaI
import Derived.Test.YtnajpeaieeaflaaDoorWrS
import Derived.Test.YtnajpeaieeaflaaDoorBit
import Derived.Test.YtnajpeaieeaflaaDoorBr
namespace Go.Proofs.YtnajpeaieeaflaaDoor.Sha
open Go.ChangeShapes Go.WideShapes Go.ChangeAt Go.RowKit
set_option linter.unusedVariables false

/-- The hash of a key. -/
def kh (k : ByteArray) : ByteArray := hashV (bytesI k)
/-- A right map: leaves and forks; a fork has the hash of a key below it. -/
inductive Tr where
  | leaf (key val : ByteArray)
  | fork (a : Nat) (hash : ByteArray) (l r : Tr)
deriving Inhabited
def Tr.hash : Tr → ByteArray
  | .leaf k _ => kh k
  | .fork _ h _ _ => h
/-- The first bit at which two hashes differ, from a place on, so many bits further at most. -/
def fdF (x y : ByteArray) : Nat → Nat → Nat
  | 0, i => i
  | n + 1, i => if bitN x i = bitN y i then fdF x y n (i + 1) else i
theorem fdF_facts (x y : ByteArray) : ∀ n i, i ≤ fdF x y n i ∧ fdF x y n i ≤ i + n ∧ (∀ j, i ≤ j → j < fdF x y n i → bitN x j = bitN y j) ∧ (fdF x y n i < i + n → bitN x (fdF x y n i) ≠ bitN y (fdF x y n i))
  | 0, i => ⟨Nat.le_refl _, Nat.le_refl _, fun j h1 h2 => by simp [fdF] at h2; omega, fun h => by simp [fdF] at h⟩
  | n + 1, i => by
    unfold fdF
    split
    · rename_i h
      obtain ⟨h1, h2, h3, h4⟩ := fdF_facts x y n (i + 1)
      refine ⟨by omega, by omega, fun j a b => ?_, fun a => h4 (by omega)⟩
      rcases Nat.lt_or_ge i j with c | c
      · exact h3 j (by omega) b
      · obtain rfl : j = i := by omega
        exact h
    · rename_i h
      exact ⟨Nat.le_refl _, by omega, fun j a b => by omega, fun _ => h⟩
def fd (x y : ByteArray) : Nat := fdF x y 256 0
theorem fd_le (x y : ByteArray) : fd x y ≤ 256 := by have := (fdF_facts x y 256 0).2.1; unfold fd; omega
theorem fd_iff (x y : ByteArray) (a : Nat) (ha : a < 256) : fd x y = a ↔ (∀ i, i < a → bitN x i = bitN y i) ∧ bitN x a ≠ bitN y a := by
  obtain ⟨_, h2, h3, h4⟩ := fdF_facts x y 256 0
  unfold fd
  constructor
  · intro e
    rw [e] at h3 h4
    exact ⟨fun i hi => h3 i (by omega) hi, h4 (by omega)⟩
  · rintro ⟨h, hn⟩
    generalize fdF x y 256 0 = q at *
    rcases Nat.lt_trichotomy q a with c | c | c
    · exact absurd (h q c) (h4 (by omega))
    · exact c
    · exact absurd (h3 a (by omega) c) hn
def okK (k : ByteArray) : Bool := decide (1 ≤ k.size) && decide (k.size ≤ 24)
theorem okK_iff {k : ByteArray} : okK k = true ↔ 1 ≤ k.size ∧ k.size ≤ 24 := by simp [okK]
theorem kid_lt {k v : ByteArray} {a : Int} {l : List Br} {b : Br} (h : b ∈ l) : SizeOf.sizeOf b < SizeOf.sizeOf (Br.mk k v a l) := by
  have := List.sizeOf_lt_of_mem h
  simp only [Br.mk.sizeOf_spec]; omega
/-- What readMap's node makes of a branch: the map, and the room that is left. -/
def readV : Br → Int → Nat → Option (Tr × Nat)
  | .mk k v a ks, least, room =>
    if a = 256 then
      if okK k = true ∧ v.size ≤ 60 ∧ ks.length = 0 ∧ room ≠ 0 then some (.leaf k v, room - 1) else none
    else if h : least ≤ a ∧ a ≤ 255 ∧ ks.length = 2 ∧ k.size = 0 ∧ v.size = 0 then
      match readV (ks[0]'(by omega)) (a + 1) room with
      | none => none
      | some (t0, r0) =>
        match readV (ks[1]'(by omega)) (a + 1) r0 with
        | none => none
        | some (t1, r1) => if fd t0.hash t1.hash = a.toNat ∧ bitN t0.hash a.toNat = 0 then some (.fork a.toNat t0.hash t0 t1, r1) else none
    else none
termination_by b => SizeOf.sizeOf b
decreasing_by
  · exact kid_lt (List.getElem_mem _)
  · exact kid_lt (List.getElem_mem _)
theorem readV_leaf {k v : ByteArray} {a least : Int} {ks : List Br} {room : Nat} (h : a = 256) :
    readV (.mk k v a ks) least room = if okK k = true ∧ v.size ≤ 60 ∧ ks.length = 0 ∧ room ≠ 0 then some (.leaf k v, room - 1) else none := by
  rw [readV, if_pos h]
theorem readV_no {k v : ByteArray} {a least : Int} {ks : List Br} {room : Nat} (h : a ≠ 256) (h2 : ¬ (least ≤ a ∧ a ≤ 255 ∧ ks.length = 2 ∧ k.size = 0 ∧ v.size = 0)) :
    readV (.mk k v a ks) least room = none := by
  rw [readV, if_neg h, dif_neg h2]
theorem readV_fork {k v : ByteArray} {a least : Int} {b0 b1 : Br} {room : Nat} (h : least ≤ a ∧ a ≤ 255 ∧ k.size = 0 ∧ v.size = 0) :
    readV (.mk k v a [b0, b1]) least room = match readV b0 (a + 1) room with
      | none => none
      | some (t0, r0) =>
        match readV b1 (a + 1) r0 with
        | none => none
        | some (t1, r1) => if fd t0.hash t1.hash = a.toNat ∧ bitN t0.hash a.toNat = 0 then some (.fork a.toNat t0.hash t0 t1, r1) else none := by
  rw [readV, if_neg (by omega), dif_pos ⟨h.1, h.2.1, rfl, h.2.2.1, h.2.2.2⟩]
  rfl
theorem two_of {α : Type} {l : List α} (h : l.length = 2) : ∃ a b, l = [a, b] := by
  match l, h with
  | [a, b], _ => exact ⟨a, b, rfl⟩
/-- The branch that the first kids lead to, at most so many steps down. -/
def lm : Nat → Br → Br
  | 0, b => b
  | n + 1, b => match b.kids with
    | [] => b
    | c :: _ => lm n c
theorem readV_facts : ∀ (n : Nat) (b : Br), SizeOf.sizeOf b ≤ n → ∀ (least : Int) (room : Nat) (t : Tr) (r : Nat), 0 ≤ least → readV b least room = some (t, r) →
    r < room ∧ (∀ m : Nat, 256 - least ≤ m → (lm m b).kids = [] ∧ okK (lm m b).key = true ∧ kh (lm m b).key = t.hash) := by
  intro n
  induction n with
  | zero => intro b hb; exact absurd hb (by cases b; simp only [Br.mk.sizeOf_spec]; omega)
  | succ n ih =>
    intro b hb least room t r hl h
    obtain ⟨k, v, a, ks⟩ := b
    by_cases ha : a = 256
    · rw [readV_leaf ha] at h
      split at h
      · rename_i hc
        obtain ⟨h1, h2, h3, h4⟩ := hc
        obtain rfl := List.eq_nil_of_length_eq_zero h3
        simp only [Option.some.injEq, Prod.mk.injEq] at h
        obtain ⟨rfl, rfl⟩ := h
        refine ⟨by omega, fun m _ => ?_⟩
        have e : lm m (.mk k v a []) = .mk k v a [] := by cases m <;> rfl
        rw [e]
        exact ⟨rfl, h1, rfl⟩
      · cases h
    · by_cases hc : least ≤ a ∧ a ≤ 255 ∧ ks.length = 2 ∧ k.size = 0 ∧ v.size = 0
      · obtain ⟨b0, b1, rfl⟩ := two_of hc.2.2.1
        rw [readV_fork ⟨hc.1, hc.2.1, hc.2.2.2.1, hc.2.2.2.2⟩] at h
        have z0 := kid_lt (k := k) (v := v) (a := a) (l := [b0, b1]) (b := b0) (by simp)
        have z1 := kid_lt (k := k) (v := v) (a := a) (l := [b0, b1]) (b := b1) (by simp)
        cases h0 : readV b0 (a + 1) room with
        | none => rw [h0] at h; cases h
        | some p0 =>
          obtain ⟨t0, r0⟩ := p0
          rw [h0] at h
          dsimp only at h
          cases h1 : readV b1 (a + 1) r0 with
          | none => rw [h1] at h; cases h
          | some p1 =>
            obtain ⟨t1, r1⟩ := p1
            rw [h1] at h
            dsimp only at h
            split at h
            · simp only [Option.some.injEq, Prod.mk.injEq] at h
              obtain ⟨rfl, rfl⟩ := h
              obtain ⟨q0, f0⟩ := ih b0 (by omega) _ _ _ _ (by omega) h0
              obtain ⟨q1, _⟩ := ih b1 (by omega) _ _ _ _ (by omega) h1
              refine ⟨by omega, fun m hm => ?_⟩
              obtain ⟨m, rfl⟩ : ∃ m', m = m' + 1 := ⟨m - 1, by omega⟩
              exact f0 m (by omega)
            · cases h
      · rw [readV_no ha hc] at h; cases h
theorem readV_zero (b : Br) (least : Int) (h : 0 ≤ least) : readV b least 0 = none := by
  cases e : readV b least 0 with
  | none => rfl
  | some p => have := (readV_facts _ b (Nat.le_refl _) least 0 p.1 p.2 h e).1; omega
/-- How many leaves the specification counts. -/
def cv (b : Br) (least : Int) (pl : List Int) (left : Int) : Int :=
  match readV b least left.toNat with
  | some (t, r) => if bitL t.hash pl.length = pl then left - r else -1
  | none => -1
theorem cv_cases (b : Br) (least : Int) (pl : List Int) (left : Int) (hl : 0 ≤ least) (h0 : 0 ≤ left) : cv b least pl left = -1 ∨ (1 ≤ cv b least pl left ∧ cv b least pl left ≤ left) := by
  unfold cv
  split
  · rename_i t r h
    have := (readV_facts _ b (Nat.le_refl _) least _ t r hl h).1
    split
    · right; omega
    · left; rfl
  · left; rfl
theorem cv_zero (b : Br) (least : Int) (pl : List Int) (left : Int) (hl : 0 ≤ least) (h : left < 1) : cv b least pl left = -1 := by
  unfold cv
  rw [show left.toNat = 0 by omega, readV_zero b least hl]
theorem cv_leaf {k v : ByteArray} {a least left : Int} {pl : List Int} (h1 : 1 ≤ left) :
    cv (.mk k v a []) least pl left = if okK k = true ∧ v.size ≤ 60 ∧ a = 256 ∧ bitL (kh k) pl.length = pl then 1 else -1 := by
  unfold cv
  by_cases ha : a = 256
  · rw [readV_leaf ha]
    by_cases hc : okK k = true ∧ v.size ≤ 60
    · rw [if_pos ⟨hc.1, hc.2, rfl, by omega⟩]
      dsimp only
      rw [show (Tr.leaf k v).hash = kh k from rfl]
      by_cases hb : bitL (kh k) pl.length = pl
      · rw [if_pos hb, if_pos ⟨hc.1, hc.2, ha, hb⟩]; omega
      · rw [if_neg hb, if_neg (fun h => hb h.2.2.2)]
    · rw [if_neg (fun h => hc ⟨h.1, h.2.1⟩), if_neg (fun h => hc ⟨h.1, h.2.1⟩)]
  · rw [readV_no ha (by simp), if_neg (fun h => ha h.2.2.1)]
theorem cv_no {k v : ByteArray} {a least left : Int} {ks : List Br} {pl : List Int} (h0 : ks.length ≠ 0) (h : ¬ (least ≤ a ∧ a ≤ 255 ∧ ks.length = 2 ∧ k.size = 0 ∧ v.size = 0)) : cv (.mk k v a ks) least pl left = -1 := by
  unfold cv
  by_cases ha : a = 256
  · rw [readV_leaf ha, if_neg (fun h => h0 h.2.2.1)]
  · rw [readV_no ha h]
theorem cv_first {k v : ByteArray} {a least left : Int} {b0 b1 : Br} {pl : List Int} (h0 : 0 ≤ least) (h : least ≤ a ∧ a ≤ 255 ∧ k.size = 0 ∧ v.size = 0) (hf : ¬ ((lm 256 b0).kids = [] ∧ okK (lm 256 b0).key = true)) : cv (.mk k v a [b0, b1]) least pl left = -1 := by
  unfold cv
  rw [readV_fork h]
  cases e0 : readV b0 (a + 1) left.toNat with
  | none => rfl
  | some p0 =>
    obtain ⟨h1, h2, _⟩ := (readV_facts _ b0 (Nat.le_refl _) _ _ p0.1 p0.2 (by omega) e0).2 256 (by omega)
    exact absurd ⟨h1, h2⟩ hf
theorem cv_pre {k v : ByteArray} {a least left : Int} {b0 b1 : Br} {pl : List Int} (h0 : 0 ≤ least) (h : least ≤ a ∧ a ≤ 255 ∧ k.size = 0 ∧ v.size = 0) (hf : bitL (kh (lm 256 b0).key) pl.length ≠ pl) : cv (.mk k v a [b0, b1]) least pl left = -1 := by
  unfold cv
  rw [readV_fork h]
  cases e0 : readV b0 (a + 1) left.toNat with
  | none => rfl
  | some p0 =>
    obtain ⟨t0, r0⟩ := p0
    obtain ⟨_, _, h3⟩ := (readV_facts _ b0 (Nat.le_refl _) _ _ t0 r0 (by omega) e0).2 256 (by omega)
    dsimp only
    cases e1 : readV b1 (a + 1) r0 with
    | none => rfl
    | some p1 =>
      obtain ⟨t1, r1⟩ := p1
      dsimp only
      by_cases hc : fd t0.hash t1.hash = a.toNat ∧ bitN t0.hash a.toNat = 0
      · rw [if_pos hc]
        dsimp only
        rw [show (Tr.fork a.toNat t0.hash t0 t1).hash = t0.hash from rfl, ← h3, if_neg hf]
      · rw [if_neg hc]
theorem pre_iff (h g : ByteArray) (n : Nat) (c : Int) : bitL h (bitL g n ++ [48 + c]).length = bitL g n ++ [48 + c] ↔ (∀ i, i < n → bitN h i = bitN g i) ∧ bitN h n = c := by
  have e : (bitL g n ++ [48 + c]).length = n + 1 := by simp [bitL_len]
  rw [e, bitL_succ]
  have hl : (bitL h n).length = (bitL g n).length := by rw [bitL_len, bitL_len]
  constructor
  · intro q
    obtain ⟨q1, q2⟩ := List.append_inj q hl
    refine ⟨(bitL_same h g n).1 q1, ?_⟩
    simp at q2; omega
  · rintro ⟨q1, q2⟩
    rw [(bitL_same h g n).2 q1, q2]
theorem cv_fork {k v : ByteArray} {a least left : Int} {b0 b1 : Br} {pl : List Int} (h0 : 0 ≤ least) (hl : 1 ≤ left) (h : least ≤ a ∧ a ≤ 255 ∧ k.size = 0 ∧ v.size = 0) (hf : bitL (kh (lm 256 b0).key) pl.length = pl) :
    cv (.mk k v a [b0, b1]) least pl left = if cv b0 (a + 1) (bitL (kh (lm 256 b0).key) a.toNat ++ [48]) left < 0 then -1 else
      if cv b1 (a + 1) (bitL (kh (lm 256 b0).key) a.toNat ++ [49]) (left - cv b0 (a + 1) (bitL (kh (lm 256 b0).key) a.toNat ++ [48]) left) < 0 then -1 else
        cv b0 (a + 1) (bitL (kh (lm 256 b0).key) a.toNat ++ [48]) left + cv b1 (a + 1) (bitL (kh (lm 256 b0).key) a.toNat ++ [49]) (left - cv b0 (a + 1) (bitL (kh (lm 256 b0).key) a.toNat ++ [48]) left) := by
  cases e0 : readV b0 (a + 1) left.toNat with
  | none =>
    have c0 : cv b0 (a + 1) (bitL (kh (lm 256 b0).key) a.toNat ++ [48]) left = -1 := by unfold cv; rw [e0]
    rw [c0, if_pos (by omega)]
    unfold cv
    rw [readV_fork h, e0]
  | some p0 =>
    obtain ⟨t0, r0⟩ := p0
    obtain ⟨q0, q1⟩ := readV_facts _ b0 (Nat.le_refl _) _ _ t0 r0 (by omega) e0
    obtain ⟨_, _, h3⟩ := q1 256 (by omega)
    rw [h3] at hf ⊢
    generalize hg : t0.hash = g at *
    have c0 : cv b0 (a + 1) (bitL g a.toNat ++ [48]) left = if bitN g a.toNat = 0 then left - r0 else -1 := by
      unfold cv
      rw [e0]
      dsimp only
      have := pre_iff g g a.toNat 0
      rw [show (48 : Int) + 0 = 48 by omega] at this
      rw [hg]
      by_cases hb : bitN g a.toNat = 0
      · rw [if_pos hb, if_pos (this.2 ⟨fun _ _ => rfl, hb⟩)]
      · rw [if_neg hb, if_neg (fun x => hb (this.1 x).2)]
    rw [c0]
    by_cases hb : bitN g a.toNat = 0
    · rw [if_pos hb, if_neg (by omega), show left - (left - (r0 : Int)) = (r0 : Int) by omega]
      have c1 : cv b1 (a + 1) (bitL g a.toNat ++ [49]) (r0 : Int) = match readV b1 (a + 1) r0 with | some (t1, r1) => if fd g t1.hash = a.toNat then (r0 : Int) - r1 else -1 | none => -1 := by
        unfold cv
        rw [Int.toNat_natCast]
        cases e1 : readV b1 (a + 1) r0 with
        | none => rfl
        | some p1 =>
          obtain ⟨t1, r1⟩ := p1
          dsimp only
          have hpi := pre_iff t1.hash g a.toNat 1
          rw [show (48 : Int) + 1 = 49 by omega] at hpi
          have hfd := fd_iff g t1.hash a.toNat (by omega)
          by_cases hq : fd g t1.hash = a.toNat
          · obtain ⟨u1, u2⟩ := hfd.1 hq
            have := bitN_01 t1.hash a.toNat
            rw [if_pos hq, if_pos (hpi.2 ⟨fun i hi => (u1 i hi).symm, by omega⟩)]
          · rw [if_neg hq, if_neg (fun x => hq (hfd.2 ⟨fun i hi => ((hpi.1 x).1 i hi).symm, by have := (hpi.1 x).2; omega⟩))]
      generalize cv b1 (a + 1) (bitL g a.toNat ++ [49]) (r0 : Int) = x at *
      unfold cv
      rw [readV_fork h, e0]
      dsimp only
      cases e1 : readV b1 (a + 1) r0 with
      | none =>
        rw [e1] at c1
        dsimp only at c1 ⊢
        rw [if_pos (by omega)]
      | some p1 =>
        obtain ⟨t1, r1⟩ := p1
        rw [e1] at c1
        have q2 := (readV_facts _ b1 (Nat.le_refl _) _ _ t1 r1 (by omega) e1).1
        dsimp only at c1 ⊢
        rw [hg]
        by_cases hq : fd g t1.hash = a.toNat
        · rw [if_pos hq] at c1
          rw [if_pos ⟨hq, hb⟩]
          dsimp only
          rw [show (Tr.fork a.toNat g t0 t1).hash = g from rfl, if_pos hf, if_neg (by omega)]; omega
        · rw [if_neg hq] at c1
          rw [if_neg (fun x => hq x.1), if_pos (by omega)]
    · rw [if_neg hb, if_pos (by omega)]
      unfold cv
      rw [readV_fork h, e0]
      dsimp only
      cases e1 : readV b1 (a + 1) r0 with
      | none => rfl
      | some p1 =>
        dsimp only
        rw [hg, if_neg (fun x => hb x.2)]
def emptyBr (b : Br) : Bool := decide (b.key.size = 0) && (decide (b.val.size = 0) && (decide (b.at_ = 0) && decide (b.kids.length = 0)))
/-- Is a map right? -/
def mapB (b : Br) : Bool := emptyBr b || (readV b 0 40).isSome
theorem mapB_cv (b : Br) : mapB b = (emptyBr b || decide (0 < cv b 0 [] 40)) := by
  unfold mapB
  congr 1
  cases e : readV b 0 40 with
  | none =>
    have h : cv b 0 [] 40 = -1 := by unfold cv; rw [show (40 : Int).toNat = 40 from rfl, e]
    rw [h]; rfl
  | some p =>
    obtain ⟨t, r⟩ := p
    have h1 := (readV_facts _ b (Nat.le_refl _) 0 40 t r (by omega) e).1
    have h : cv b 0 [] 40 = 40 - (r : Int) := by unfold cv; rw [show (40 : Int).toNat = 40 from rfl, e]; exact if_pos rfl
    rw [h]
    simp; omega
end Go.Proofs.YtnajpeaieeaflaaDoor.Sha
