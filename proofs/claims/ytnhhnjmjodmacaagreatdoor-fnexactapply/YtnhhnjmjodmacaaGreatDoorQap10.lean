/- What the proof of the claim needs (joined by program): BrP BrK BrF. -/
import Derived.Test.YtnhhnjmjodmacaaGreatDoorQap06
import Derived.Test.YtnhhnjmjodmacaaGreatDoorQap08
import Derived.Test.YtnhhnjmjodmacaaGreatDoorQap09
import Derived.Test.YtnhhnjmjodmacaaGreatDoorQap03
import Derived.Deep.RegionHeld3
import Derived.BigQuiet
import Derived.Lib.BitFns
import Derived.Laws.BitsAllLaws
namespace Go.Proofs.YtnhhnjmjodmacaaGreatDoor.Sha
set_option maxRecDepth 100000
set_option maxHeartbeats 8000000
open Go.ChangeShapes Go.WideShapes Go.ChangeAt Go.RowKit
set_option linter.unusedVariables false
def kh (k : ByteArray) : ByteArray := hashV (bytesI k)
inductive Tr where
 | leaf (key val : ByteArray)
 | fork (a : Nat) (hash : ByteArray) (l r : Tr)
deriving Inhabited
def Tr.hash : Tr → ByteArray
 | .leaf k _ => kh k
 | .fork _ h _ _ => h
def fdF (x y : ByteArray) : Nat → Nat → Nat
 | 0, i => i
 | n + 1, i => if bitN x i = bitN y i then fdF x y n (i + 1) else i
theorem fdF_facts (x y : ByteArray) : ∀ n i, i ≤ fdF x y n i ∧ fdF x y n i ≤ i + n ∧ (∀ j, i ≤ j → j < fdF x y n i → bitN x j = bitN y j) ∧ (fdF x y n i < i + n → bitN x (fdF x y n i) ≠ bitN y (fdF x y n i))
 | 0, i => ⟨Nat.le_refl _, Nat.le_refl _, fun j h1 h2 => by simp [fdF] at h2; omega, fun h => by simp [fdF] at h⟩
 | n + 1, i => by
  unfold fdF
  split
  ·rename_i h
   obtain ⟨h1, h2, h3, h4⟩ := fdF_facts x y n (i + 1)
   refine ⟨by omega, by omega, fun j a b => ?_, fun a => h4 (by omega)⟩
   rcases Nat.lt_or_ge i j with c | c
   ·exact h3 j (by omega) b
   ·obtain rfl : j = i := by omega
    exact h
  ·rename_i h
   exact ⟨Nat.le_refl _, by omega, fun j a b => by omega, fun _ => h⟩
def fd (x y : ByteArray) : Nat := fdF x y 256 0
theorem fd_le (x y : ByteArray) : fd x y ≤ 256 := by have := (fdF_facts x y 256 0).2.1; unfold fd; omega
theorem fd_iff (x y : ByteArray) (a : Nat) (ha : a < 256) : fd x y = a ↔ (∀ i, i < a → bitN x i = bitN y i) ∧ bitN x a ≠ bitN y a := by
 obtain ⟨_, h2, h3, h4⟩ := fdF_facts x y 256 0
 unfold fd
 constructor
 ·intro e
  rw [e] at h3 h4
  exact ⟨fun i hi => h3 i (by omega) hi, h4 (by omega)⟩
 ·rintro ⟨h, hn⟩
  generalize fdF x y 256 0 = q at *
  rcases Nat.lt_trichotomy q a with c | c | c
  ·exact absurd (h q c) (h4 (by omega))
  ·exact c
  ·exact absurd (h3 a (by omega) c) hn
def okK (k : ByteArray) : Bool := decide (1 ≤ k.size) && decide (k.size ≤ 24)
theorem okK_iff {k : ByteArray} : okK k = true ↔ 1 ≤ k.size ∧ k.size ≤ 24 := by simp [okK]
theorem kid_lt {k v : ByteArray} {a : Int} {l : List Br} {b : Br} (h : b ∈ l) : SizeOf.sizeOf b < SizeOf.sizeOf (Br.mk k v a l) := by
 have := List.sizeOf_lt_of_mem h
 simp only [Br.mk.sizeOf_spec]; omega
def readV : Br → Int → Nat → Option (Tr × Nat)
 | .mk k v a ks, least, room =>
  if a = 256 then
   if okK k = true ∧ v.size ≤ 60 ∧ ks.length = 0 ∧ room ≠ 0 then some (.leaf k v, room - 1) else none
  else if h : least ≤ a ∧ a ≤ 255 ∧ ks.length = 2 ∧ k.size = 0 ∧ v.size = 0 then
   match readV (ks[0]'(by omega)) (a + 1) room with
   | none => none
   | some (t0, r0) =>
    match readV (ks[1]'(by omega)) (a + 1) r0 with
    | none => none
    | some (t1, r1) => if fd t0.hash t1.hash = a.toNat ∧ bitN t0.hash a.toNat = 0 then some (.fork a.toNat t0.hash t0 t1, r1) else none
  else none
termination_by b => SizeOf.sizeOf b
decreasing_by
 ·exact kid_lt (List.getElem_mem _)
 ·exact kid_lt (List.getElem_mem _)
theorem readV_leaf {k v : ByteArray} {a least : Int} {ks : List Br} {room : Nat} (h : a = 256) :
  readV (.mk k v a ks) least room = if okK k = true ∧ v.size ≤ 60 ∧ ks.length = 0 ∧ room ≠ 0 then some (.leaf k v, room - 1) else none := by
 rw [readV, if_pos h]
theorem readV_no {k v : ByteArray} {a least : Int} {ks : List Br} {room : Nat} (h : a ≠ 256) (h2 : ¬ (least ≤ a ∧ a ≤ 255 ∧ ks.length = 2 ∧ k.size = 0 ∧ v.size = 0)) :
  readV (.mk k v a ks) least room = none := by
 rw [readV, if_neg h, dif_neg h2]
theorem readV_fork {k v : ByteArray} {a least : Int} {b0 b1 : Br} {room : Nat} (h : least ≤ a ∧ a ≤ 255 ∧ k.size = 0 ∧ v.size = 0) :
  readV (.mk k v a [b0, b1]) least room = match readV b0 (a + 1) room with
   | none => none
   | some (t0, r0) =>
    match readV b1 (a + 1) r0 with
    | none => none
    | some (t1, r1) => if fd t0.hash t1.hash = a.toNat ∧ bitN t0.hash a.toNat = 0 then some (.fork a.toNat t0.hash t0 t1, r1) else none := by
 rw [readV, if_neg (by omega), dif_pos ⟨h.1, h.2.1, rfl, h.2.2.1, h.2.2.2⟩]
 rfl
theorem two_of {α : Type} {l : List α} (h : l.length = 2) : ∃ a b, l = [a, b] := by
 match l, h with
 | [a, b], _ => exact ⟨a, b, rfl⟩
def lm : Nat → Br → Br
 | 0, b => b
 | n + 1, b => match b.kids with
  | [] => b
  | c :: _ => lm n c
theorem readV_facts : ∀ (n : Nat) (b : Br), SizeOf.sizeOf b ≤ n → ∀ (least : Int) (room : Nat) (t : Tr) (r : Nat), 0 ≤ least → readV b least room = some (t, r) →
  r < room ∧ (∀ m : Nat, 256 - least ≤ m → (lm m b).kids = [] ∧ okK (lm m b).key = true ∧ kh (lm m b).key = t.hash) := by
 intro n
 induction n with
 | zero => intro b hb; exact absurd hb (by cases b; simp only [Br.mk.sizeOf_spec]; omega)
 | succ n ih =>
  intro b hb least room t r hl h
  obtain ⟨k, v, a, ks⟩ := b
  by_cases ha : a = 256
  ·rw [readV_leaf ha] at h
   split at h
   ·rename_i hc
    obtain ⟨h1, h2, h3, h4⟩ := hc
    obtain rfl := List.eq_nil_of_length_eq_zero h3
    simp only [Option.some.injEq, Prod.mk.injEq] at h
    obtain ⟨rfl, rfl⟩ := h
    refine ⟨by omega, fun m _ => ?_⟩
    have e : lm m (.mk k v a []) = .mk k v a [] := by cases m <;> rfl
    rw [e]
    exact ⟨rfl, h1, rfl⟩
   ·cases h
  ·by_cases hc : least ≤ a ∧ a ≤ 255 ∧ ks.length = 2 ∧ k.size = 0 ∧ v.size = 0
   ·obtain ⟨b0, b1, rfl⟩ := two_of hc.2.2.1
    rw [readV_fork ⟨hc.1, hc.2.1, hc.2.2.2.1, hc.2.2.2.2⟩] at h
    have z0 := kid_lt (k := k) (v := v) (a := a) (l := [b0, b1]) (b := b0) (by simp)
    have z1 := kid_lt (k := k) (v := v) (a := a) (l := [b0, b1]) (b := b1) (by simp)
    cases h0 : readV b0 (a + 1) room with
    | none => rw [h0] at h; cases h
    | some p0 =>
     obtain ⟨t0, r0⟩ := p0
     rw [h0] at h
     dsimp only at h
     cases h1 : readV b1 (a + 1) r0 with
     | none => rw [h1] at h; cases h
     | some p1 =>
      obtain ⟨t1, r1⟩ := p1
      rw [h1] at h
      dsimp only at h
      split at h
      ·simp only [Option.some.injEq, Prod.mk.injEq] at h
       obtain ⟨rfl, rfl⟩ := h
       obtain ⟨q0, f0⟩ := ih b0 (by omega) _ _ _ _ (by omega) h0
       obtain ⟨q1, _⟩ := ih b1 (by omega) _ _ _ _ (by omega) h1
       refine ⟨by omega, fun m hm => ?_⟩
       obtain ⟨m, rfl⟩ : ∃ m', m = m' + 1 := ⟨m - 1, by omega⟩
       exact f0 m (by omega)
      ·cases h
   ·rw [readV_no ha hc] at h; cases h
theorem readV_zero (b : Br) (least : Int) (h : 0 ≤ least) : readV b least 0 = none := by
 cases e : readV b least 0 with
 | none => rfl
 | some p => have := (readV_facts _ b (Nat.le_refl _) least 0 p.1 p.2 h e).1; omega
def cv (b : Br) (least : Int) (pl : List Int) (left : Int) : Int :=
 match readV b least left.toNat with
 | some (t, r) => if bitL t.hash pl.length = pl then left - r else -1
 | none => -1
theorem cv_cases (b : Br) (least : Int) (pl : List Int) (left : Int) (hl : 0 ≤ least) (h0 : 0 ≤ left) : cv b least pl left = -1 ∨ (1 ≤ cv b least pl left ∧ cv b least pl left ≤ left) := by
 unfold cv
 split
 ·rename_i t r h
  have := (readV_facts _ b (Nat.le_refl _) least _ t r hl h).1
  split
  ·right; omega
  ·left; rfl
 ·left; rfl
theorem cv_zero (b : Br) (least : Int) (pl : List Int) (left : Int) (hl : 0 ≤ least) (h : left < 1) : cv b least pl left = -1 := by
 unfold cv
 rw [show left.toNat = 0 by omega, readV_zero b least hl]
theorem cv_leaf {k v : ByteArray} {a least left : Int} {pl : List Int} (h1 : 1 ≤ left) :
  cv (.mk k v a []) least pl left = if okK k = true ∧ v.size ≤ 60 ∧ a = 256 ∧ bitL (kh k) pl.length = pl then 1 else -1 := by
 unfold cv
 by_cases ha : a = 256
 ·rw [readV_leaf ha]
  by_cases hc : okK k = true ∧ v.size ≤ 60
  ·rw [if_pos ⟨hc.1, hc.2, rfl, by omega⟩]
   dsimp only
   rw [show (Tr.leaf k v).hash = kh k from rfl]
   by_cases hb : bitL (kh k) pl.length = pl
   ·rw [if_pos hb, if_pos ⟨hc.1, hc.2, ha, hb⟩]; omega
   ·rw [if_neg hb, if_neg (fun h => hb h.2.2.2)]
  ·rw [if_neg (fun h => hc ⟨h.1, h.2.1⟩), if_neg (fun h => hc ⟨h.1, h.2.1⟩)]
 ·rw [readV_no ha (by simp), if_neg (fun h => ha h.2.2.1)]
theorem cv_no {k v : ByteArray} {a least left : Int} {ks : List Br} {pl : List Int} (h0 : ks.length ≠ 0) (h : ¬ (least ≤ a ∧ a ≤ 255 ∧ ks.length = 2 ∧ k.size = 0 ∧ v.size = 0)) : cv (.mk k v a ks) least pl left = -1 := by
 unfold cv
 by_cases ha : a = 256
 ·rw [readV_leaf ha, if_neg (fun h => h0 h.2.2.1)]
 ·rw [readV_no ha h]
theorem cv_first {k v : ByteArray} {a least left : Int} {b0 b1 : Br} {pl : List Int} (h0 : 0 ≤ least) (h : least ≤ a ∧ a ≤ 255 ∧ k.size = 0 ∧ v.size = 0) (hf : ¬ ((lm 256 b0).kids = [] ∧ okK (lm 256 b0).key = true)) : cv (.mk k v a [b0, b1]) least pl left = -1 := by
 unfold cv
 rw [readV_fork h]
 cases e0 : readV b0 (a + 1) left.toNat with
 | none => rfl
 | some p0 =>
  obtain ⟨h1, h2, _⟩ := (readV_facts _ b0 (Nat.le_refl _) _ _ p0.1 p0.2 (by omega) e0).2 256 (by omega)
  exact absurd ⟨h1, h2⟩ hf
theorem cv_pre {k v : ByteArray} {a least left : Int} {b0 b1 : Br} {pl : List Int} (h0 : 0 ≤ least) (h : least ≤ a ∧ a ≤ 255 ∧ k.size = 0 ∧ v.size = 0) (hf : bitL (kh (lm 256 b0).key) pl.length ≠ pl) : cv (.mk k v a [b0, b1]) least pl left = -1 := by
 unfold cv
 rw [readV_fork h]
 cases e0 : readV b0 (a + 1) left.toNat with
 | none => rfl
 | some p0 =>
  obtain ⟨t0, r0⟩ := p0
  obtain ⟨_, _, h3⟩ := (readV_facts _ b0 (Nat.le_refl _) _ _ t0 r0 (by omega) e0).2 256 (by omega)
  dsimp only
  cases e1 : readV b1 (a + 1) r0 with
  | none => rfl
  | some p1 =>
   obtain ⟨t1, r1⟩ := p1
   dsimp only
   by_cases hc : fd t0.hash t1.hash = a.toNat ∧ bitN t0.hash a.toNat = 0
   ·rw [if_pos hc]
    dsimp only
    rw [show (Tr.fork a.toNat t0.hash t0 t1).hash = t0.hash from rfl, ← h3, if_neg hf]
   ·rw [if_neg hc]
theorem pre_iff (h g : ByteArray) (n : Nat) (c : Int) : bitL h (bitL g n ++ [48 + c]).length = bitL g n ++ [48 + c] ↔ (∀ i, i < n → bitN h i = bitN g i) ∧ bitN h n = c := by
 have e : (bitL g n ++ [48 + c]).length = n + 1 := by simp [bitL_len]
 rw [e, bitL_succ]
 have hl : (bitL h n).length = (bitL g n).length := by rw [bitL_len, bitL_len]
 constructor
 ·intro q
  obtain ⟨q1, q2⟩ := List.append_inj q hl
  refine ⟨(bitL_same h g n).1 q1, ?_⟩
  simp at q2; omega
 ·rintro ⟨q1, q2⟩
  rw [(bitL_same h g n).2 q1, q2]
theorem cv_fork {k v : ByteArray} {a least left : Int} {b0 b1 : Br} {pl : List Int} (h0 : 0 ≤ least) (hl : 1 ≤ left) (h : least ≤ a ∧ a ≤ 255 ∧ k.size = 0 ∧ v.size = 0) (hf : bitL (kh (lm 256 b0).key) pl.length = pl) :
  cv (.mk k v a [b0, b1]) least pl left = if cv b0 (a + 1) (bitL (kh (lm 256 b0).key) a.toNat ++ [48]) left < 0 then -1 else
   if cv b1 (a + 1) (bitL (kh (lm 256 b0).key) a.toNat ++ [49]) (left - cv b0 (a + 1) (bitL (kh (lm 256 b0).key) a.toNat ++ [48]) left) < 0 then -1 else
    cv b0 (a + 1) (bitL (kh (lm 256 b0).key) a.toNat ++ [48]) left + cv b1 (a + 1) (bitL (kh (lm 256 b0).key) a.toNat ++ [49]) (left - cv b0 (a + 1) (bitL (kh (lm 256 b0).key) a.toNat ++ [48]) left) := by
 cases e0 : readV b0 (a + 1) left.toNat with
 | none =>
  have c0 : cv b0 (a + 1) (bitL (kh (lm 256 b0).key) a.toNat ++ [48]) left = -1 := by unfold cv; rw [e0]
  rw [c0, if_pos (by omega)]
  unfold cv
  rw [readV_fork h, e0]
 | some p0 =>
  obtain ⟨t0, r0⟩ := p0
  obtain ⟨q0, q1⟩ := readV_facts _ b0 (Nat.le_refl _) _ _ t0 r0 (by omega) e0
  obtain ⟨_, _, h3⟩ := q1 256 (by omega)
  rw [h3] at hf ⊢
  generalize hg : t0.hash = g at *
  have c0 : cv b0 (a + 1) (bitL g a.toNat ++ [48]) left = if bitN g a.toNat = 0 then left - r0 else -1 := by
   unfold cv
   rw [e0]
   dsimp only
   have := pre_iff g g a.toNat 0
   rw [show (48 : Int) + 0 = 48 by omega] at this
   rw [hg]
   by_cases hb : bitN g a.toNat = 0
   ·rw [if_pos hb, if_pos (this.2 ⟨fun _ _ => rfl, hb⟩)]
   ·rw [if_neg hb, if_neg (fun x => hb (this.1 x).2)]
  rw [c0]
  by_cases hb : bitN g a.toNat = 0
  ·rw [if_pos hb, if_neg (by omega), show left - (left - (r0 : Int)) = (r0 : Int) by omega]
   have c1 : cv b1 (a + 1) (bitL g a.toNat ++ [49]) (r0 : Int) = match readV b1 (a + 1) r0 with | some (t1, r1) => if fd g t1.hash = a.toNat then (r0 : Int) - r1 else -1 | none => -1 := by
    unfold cv
    rw [Int.toNat_natCast]
    cases e1 : readV b1 (a + 1) r0 with
    | none => rfl
    | some p1 =>
     obtain ⟨t1, r1⟩ := p1
     dsimp only
     have hpi := pre_iff t1.hash g a.toNat 1
     rw [show (48 : Int) + 1 = 49 by omega] at hpi
     have hfd := fd_iff g t1.hash a.toNat (by omega)
     by_cases hq : fd g t1.hash = a.toNat
     ·obtain ⟨u1, u2⟩ := hfd.1 hq
      have := bitN_01 t1.hash a.toNat
      rw [if_pos hq, if_pos (hpi.2 ⟨fun i hi => (u1 i hi).symm, by omega⟩)]
     ·rw [if_neg hq, if_neg (fun x => hq (hfd.2 ⟨fun i hi => ((hpi.1 x).1 i hi).symm, by have := (hpi.1 x).2; omega⟩))]
   generalize cv b1 (a + 1) (bitL g a.toNat ++ [49]) (r0 : Int) = x at *
   unfold cv
   rw [readV_fork h, e0]
   dsimp only
   cases e1 : readV b1 (a + 1) r0 with
   | none =>
    rw [e1] at c1
    dsimp only at c1 ⊢
    rw [if_pos (by omega)]
   | some p1 =>
    obtain ⟨t1, r1⟩ := p1
    rw [e1] at c1
    have q2 := (readV_facts _ b1 (Nat.le_refl _) _ _ t1 r1 (by omega) e1).1
    dsimp only at c1 ⊢
    rw [hg]
    by_cases hq : fd g t1.hash = a.toNat
    ·rw [if_pos hq] at c1
     rw [if_pos ⟨hq, hb⟩]
     dsimp only
     rw [show (Tr.fork a.toNat g t0 t1).hash = g from rfl, if_pos hf, if_neg (by omega)]; omega
    ·rw [if_neg hq] at c1
     rw [if_neg (fun x => hq x.1), if_pos (by omega)]
  ·rw [if_neg hb, if_pos (by omega)]
   unfold cv
   rw [readV_fork h, e0]
   dsimp only
   cases e1 : readV b1 (a + 1) r0 with
   | none => rfl
   | some p1 =>
    dsimp only
    rw [hg, if_neg (fun x => hb x.2)]
def emptyBr (b : Br) : Bool := decide (b.key.size = 0) && (decide (b.val.size = 0) && (decide (b.at_ = 0) && decide (b.kids.length = 0)))
def mapB (b : Br) : Bool := emptyBr b || (readV b 0 40).isSome
theorem mapB_cv (b : Br) : mapB b = (emptyBr b || decide (0 < cv b 0 [] 40)) := by
 unfold mapB
 congr 1
 cases e : readV b 0 40 with
 | none =>
  have h : cv b 0 [] 40 = -1 := by unfold cv; rw [show (40 : Int).toNat = 40 from rfl, e]
  rw [h]; rfl
 | some p =>
  obtain ⟨t, r⟩ := p
  have h1 := (readV_facts _ b (Nat.le_refl _) 0 40 t r (by omega) e).1
  have h : cv b 0 [] 40 = 40 - (r : Int) := by unfold cv; rw [show (40 : Int).toNat = 40 from rfl, e]; exact if_pos rfl
  rw [h]
  simp; omega
theorem kh_size {k : ByteArray} (h : k.size ≤ 65536) : (kh k).size = 32 := hash_size (by rw [bytesI_len]; exact h)
theorem okK_in (k : ByteArray) : okK k = inB k.size 1 24 := by
 unfold okK inB; congr 1 <;> (apply decide_eq_decide.2; omega)
theorem keyOKb_any (s : ByteArray) (w : World) (hs : s.size ≤ maxLen) :
  Calls Tryz.prog 73 #[.string s] w fun e w' => e = .returned (.bool (okK s)) ∧ w' = w := by
 rw [okK_in]
 unfold maxLen at hs
 have H := Hd (within_any s.size 1 24 w)
 generalize inB s.size 1 24 = b at *
 go_enter Tryz.func73, Tryz.ntmps73
 go_wp2_with fail
 refine (uh H).mono ?_
 rintro e w9 ⟨rfl, hw9⟩
 subst w9
 go_wp2_with fail
 go_ret
 exact ⟨rfl, rfl⟩
theorem l02Keyb_any (s : ByteArray) (w : World) (hs : s.size ≤ maxLen) :
  Calls Tryz.prog 59 #[.string s] w fun e w' => e = .returned (.bool (okK s)) ∧ w' = w := by
 rw [okK_in]
 unfold maxLen at hs
 by_cases h1 : 1 ≤ (s.size : Int)
 ·have H : Hid (inB s.size 1 24 = decide ((s.size : Int) ≤ 24)) := Hd (by simp [inB, h1])
  go_enter Tryz.func59, Tryz.ntmps59
  go_wp2_with fail
  go_ret
  exact ⟨ret_bool (uh H).symm, rfl⟩
 ·have H := Hd (show inB s.size 1 24 = false by simp [inB]; omega)
  go_enter Tryz.func59, Tryz.ntmps59
  go_wp2_with fail
  go_ret
  exact ⟨ret_bool (uh H).symm, rfl⟩
theorem l07Hash_any (k : ByteArray) (w : World) (hk : k.size ≤ 65536) :
  Calls Tryz.prog 89 #[.string k] w fun e w' => e = .returned (.string (kh k)) ∧ Below w.heap.size w w' := by
 obtain ⟨cap, w1, hcv, hB, hb1⟩ := str_bytesB k w (by unfold maxLen; omega)
 have hl : (bytesI k).length = k.size := bytesI_len k
 have HV : Hid (kh k = strOfNums (textL (stAt (bytesI k) (padLen (bytesI k).length / 64)))) := Hd (hashV_yes (by omega))
 have hB' : Bytes w1 (.slice (some ⟨w.heap.size, 0, none⟩) (bytesI k).length cap) (bytesI k) := by rw [hl]; exact hB
 have HL := Hd (l01Hash_any _ _ _ w1 hB' (by omega))
 rw [hl] at HL HV
 have B1 := Hd hb1
 clear hb1 hB hB' hl
 go_enter Tryz.func89, Tryz.ntmps89
 go_wp2_with fail
 refine (uh HL).mono ?_
 rintro e w3 ⟨rfl, hb3⟩
 have K := hbt B1 hb3
 clear hb3
 rw [← uh HV]
 go_wp2_with fail
 go_ret
 exact ⟨rfl, uh K⟩
theorem wrap64_small8 {n : Int} (h0 : 0 ≤ n) (h1 : n < 1000000) : wrap64 n = n := by unfold wrap64; omega
theorem fold_tab8 : (⟨(([0, 1, 2, 2, 3, 3, 3, 3, 4, 4, 4, 4, 4, 4, 4, 4, 5, 5, 5, 5, 5, 5, 5, 5, 5, 5, 5, 5, 5, 5, 5, 5, 6, 6, 6, 6, 6, 6, 6, 6, 6, 6, 6, 6, 6, 6, 6, 6, 6, 6, 6, 6, 6, 6, 6, 6, 6, 6, 6, 6, 6, 6, 6, 6].append [7, 7, 7, 7, 7, 7, 7, 7, 7, 7, 7, 7, 7, 7, 7, 7, 7, 7, 7, 7, 7, 7, 7, 7, 7, 7, 7, 7, 7, 7, 7, 7, 7, 7, 7, 7, 7, 7, 7, 7, 7, 7, 7, 7, 7, 7, 7, 7, 7, 7, 7, 7, 7, 7, 7, 7, 7, 7, 7, 7, 7, 7, 7, 7]).append ([8, 8, 8, 8, 8, 8, 8, 8, 8, 8, 8, 8, 8, 8, 8, 8, 8, 8, 8, 8, 8, 8, 8, 8, 8, 8, 8, 8, 8, 8, 8, 8, 8, 8, 8, 8, 8, 8, 8, 8, 8, 8, 8, 8, 8, 8, 8, 8, 8, 8, 8, 8, 8, 8, 8, 8, 8, 8, 8, 8, 8, 8, 8, 8].append [8, 8, 8, 8, 8, 8, 8, 8, 8, 8, 8, 8, 8, 8, 8, 8, 8, 8, 8, 8, 8, 8, 8, 8, 8, 8, 8, 8, 8, 8, 8, 8, 8, 8, 8, 8, 8, 8, 8, 8, 8, 8, 8, 8, 8, 8, 8, 8, 8, 8, 8, 8, 8, 8, 8, 8, 8, 8, 8, 8, 8, 8, 8, 8])).toArray⟩ : ByteArray) = Lib.len8tab := by kernel_rfl
theorem len8_any (x : Int) (w : World) (h0 : 0 ≤ x) (h1 : x ≤ 255) :
  Calls Tryz.prog 139 #[.int .u8 x] w fun e w' => e = .returned (.int .i64 (Lib.bitLen x.toNat)) ∧ w' = w := by
 go_enter Tryz.func139, Tryz.ntmps139
 rw [fold_tab8]
 go_wp2
 go_ret
 have e := Lib.len8_eq ⟨x.toNat, by omega⟩
 have l := Lib.bitLen_le8 ⟨x.toNat, by omega⟩
 dsimp only at e l
 rw [Int.toNat_of_nonneg h0] at e
 refine ⟨ret_int ?_, rfl⟩
 rw [e]
 exact wrap64_small8 (by omega) (by omega)
theorem lead8_any (x : Int) (w : World) (h0 : 0 ≤ x) (h1 : x ≤ 255) :
  Calls Tryz.prog 129 #[.int .u8 x] w fun e w' => e = .returned (.int .i64 (8 - (Lib.bitLen x.toNat : Int))) ∧ w' = w := by
 have l := Lib.bitLen_le8 ⟨x.toNat, by omega⟩
 dsimp only at l
 have H := Hd (len8_any x w h0 h1)
 generalize Lib.bitLen x.toNat = q at *
 go_enter Tryz.func129, Tryz.ntmps129
 go_wp2_with fail
 refine (uh H).mono ?_
 rintro e w9 ⟨rfl, hw9⟩
 subst w9
 go_wp2_with fail
 go_ret
 exact ⟨rfl, rfl⟩
theorem bl_bits : ∀ d : Fin 256, d.val ≠ 0 → 1 ≤ Lib.bitLen d.val ∧ Lib.bitLen d.val ≤ 8 ∧ d.val.testBit (Lib.bitLen d.val - 1) = true ∧ ∀ j : Fin 8, Lib.bitLen d.val ≤ j.val → d.val.testBit j.val = false := by decide +kernel
def byN (s : ByteArray) (i : Nat) : Nat := (s.data.toList.getD i 0).toNat
theorem bAt_byN (s : ByteArray) (i : Nat) : bAt s i = (byN s i : Int) := rfl
theorem byN_lt (s : ByteArray) (i : Nat) : byN s i < 256 := (s.data.toList.getD i 0).toNat_lt
theorem bitN_test (s : ByteArray) (i : Nat) : bitN s i = if (byN s (i / 8)).testBit (7 - i % 8) then 1 else 0 := by
 unfold bitN
 rw [bAt_byN, Nat.testBit_eq_decide_div_mod_eq]
 have e : (byN s (i / 8) : Int) / 2 ^ (7 - i % 8) % 2 = ((byN s (i / 8) / 2 ^ (7 - i % 8) % 2 : Nat) : Int) := by simp
 rw [e]
 have := Nat.mod_lt (byN s (i / 8) / 2 ^ (7 - i % 8)) (show 0 < 2 by omega)
 generalize byN s (i / 8) / 2 ^ (7 - i % 8) % 2 = q at *
 by_cases h : q = 1
 ·simp [h]
 ·have : q = 0 := by omega
  simp [this]
theorem fd_byte (x y : ByteArray) (k : Nat) (hk : k < 32) (hs : ∀ j, j < k → byN x j = byN y j) (hd : byN x k ^^^ byN y k ≠ 0) : fd x y = 8 * k + (8 - Lib.bitLen (byN x k ^^^ byN y k)) := by
 have hlt : byN x k ^^^ byN y k < 256 := Nat.xor_lt_two_pow (n := 8) (byN_lt x k) (byN_lt y k)
 obtain ⟨h1, h2, h3, h4⟩ := bl_bits ⟨byN x k ^^^ byN y k, hlt⟩ hd
 dsimp only at h1 h2 h3 h4
 generalize Lib.bitLen (byN x k ^^^ byN y k) = bl at *
 rw [fd_iff _ _ _ (by omega)]
 constructor
 ·intro i hi
  rw [bitN_test, bitN_test]
  rcases Nat.lt_or_ge (i / 8) k with h | h
  ·rw [hs _ h]
  ·have e : i / 8 = k := by omega
   have := h4 ⟨7 - i % 8, by omega⟩ (by dsimp only; omega)
   dsimp only at this
   rw [Nat.testBit_xor] at this
   rw [e]
   generalize (byN x k).testBit (7 - i % 8) = b1 at *
   generalize (byN y k).testBit (7 - i % 8) = b2 at *
   cases b1 <;> cases b2 <;> simp_all
 ·rw [bitN_test, bitN_test]
  have e1 : (8 * k + (8 - bl)) / 8 = k := by omega
  have e2 : 7 - (8 * k + (8 - bl)) % 8 = bl - 1 := by omega
  rw [e1, e2]
  rw [Nat.testBit_xor] at h3
  generalize (byN x k).testBit (bl - 1) = b1 at *
  generalize (byN y k).testBit (bl - 1) = b2 at *
  cases b1 <;> cases b2 <;> simp_all
theorem fd_same (x y : ByteArray) (hs : ∀ j, j < 32 → byN x j = byN y j) : fd x y = 256 := by
 obtain ⟨_, h2, h3, h4⟩ := fdF_facts x y 256 0
 unfold fd
 generalize fdF x y 256 0 = q at *
 rcases Nat.lt_or_ge q 256 with h | h
 ·exfalso
  apply h4 (by omega)
  rw [bitN_test, bitN_test, hs _ (by omega)]
 ·omega
theorem firstDiff_any (x y : ByteArray) (w : World) (hx : x.size = 32) (hy : y.size = 32) :
  Calls Tryz.prog 113 #[.string x, .string y] w fun e w' => e = .returned (.int .i64 (fd x y)) ∧ ∃ n, w' = w.drewN n := by
 go_enter Tryz.func113, Tryz.ntmps113
 go_wp2_with fail
 go_loopw [5, 6, 7] (fun _ _ i wr => ∃ k : Nat, k ≤ 32 ∧ i = .int .i64 k ∧ (∀ j, j < k → byN x j = byN y j) ∧ ∃ n, wr = w.drewN n) (fun _ _ i _ => 32 - (intOf i).toNat)
 case atStart => exact ⟨0, Nat.zero_le _, rfl, fun j hj => by omega, 0, rfl⟩
 case round =>
  obtain ⟨k, hk, rfl, hs, n, hn⟩ := hrel
  have HN := Hd hn
  have HS := Hd hs
  clear hn hs
  by_cases hlt : k < 32
  ·have hk0 : (0 : Int) ≤ (k : Int) := by omega
   have hk1 : (k : Int) < (x.size : Int) := by omega
   have hk2 : (k : Int) < (y.size : Int) := by omega
   have e1 := bAt_eq x k (by omega)
   have e2 := bAt_eq y k (by omega)
   have e3 : bits .xor .u8 (bAt x k) (bAt y k) = ((byN x k ^^^ byN y k : Nat) : Int) := u8_xor_nat _ _ (byN_lt x k) (byN_lt y k)
   have hlt8 : byN x k ^^^ byN y k < 256 := Nat.xor_lt_two_pow (n := 8) (byN_lt x k) (byN_lt y k)
   have HFB := Hd (fun hd => fd_byte x y k hlt (uh HS) hd)
   have HX0 : Hid (byN x k ^^^ byN y k = 0 → byN x k = byN y k) := Hd (fun h => Nat.eq_of_testBit_eq (fun i => by have q := congrArg (fun z => z.testBit i) h; simp [Nat.testBit_xor] at q; exact q))
   generalize byN x k ^^^ byN y k = d at *
   generalize bAt x k = bx at *
   generalize bAt y k = by' at *
   go_wp2_with fail
   go_quiet (fail)
   have HN2 : Hid (∃ n', wr.drewN nq = w.drewN n') := Hd ⟨n + nq, by rw [uh HN, World.drewN_drewN]⟩
   generalize wr.drewN nq = w2 at *
   by_cases hd : d = 0
   ·have HE := Hd (uh HX0 hd)
    subst hd
    go_wp2_with fail
    refine ⟨⟨k + 1, by omega, by go_num, fun j hj => ?_, uh HN2⟩, ?_⟩
    ·rcases Nat.lt_or_ge j k with h | h
     ·exact uh HS j h
     ·obtain rfl : j = k := by omega
      exact uh HE
    ·simp [intOf]; omega
   ·have H := Hd (uh HFB hd)
    have hd2 : (d : Int) ≠ 0 := by omega
    have l := (bl_bits ⟨d, hlt8⟩ hd)
    have l1 := l.1
    have l2 := l.2.1
    dsimp only at l1 l2
    have HL := Hd (lead8_any (d : Int) w2 (by omega) (by omega))
    rw [Int.toNat_natCast] at HL
    clear l HX0 HFB
    generalize Lib.bitLen d = bl at *
    go_wp2_with fail
    refine (uh HL).mono ?_
    rintro e w9 ⟨rfl, hw9⟩
    subst w9
    go_wp2_with fail
    go_ret
    exact ⟨ret_int (by rw [uh H]; omega), uh HN2⟩
  ·obtain rfl : k = 32 := by omega
   have H := Hd (fd_same x y (uh HS))
   go_wp2_with fail
   go_ret
   exact ⟨ret_int (by rw [uh H]; rfl), n, uh HN⟩
end Go.Proofs.YtnhhnjmjodmacaaGreatDoor.Sha
