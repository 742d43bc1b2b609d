/- Maps, pure: what reading a branch makes of it, and what the specification counts: both say the same. Keys: their faults and their hashes. Where two hashes differ: impl.firstDifference; nodes of a map: newLeaf, newFork. Nodes of a map in memory; newLeaf, newFork. -/
import Derived.Test.YtnhhnjmjodmacaaGreatDoorQan05
import Derived.Test.YtnhhnjmjodmacaaGreatDoorQan08
import Derived.Test.YtnhhnjmjodmacaaGreatDoorQan01
import Derived.Deep.RegionHeld3
import Derived.BigQuiet
import Derived.Lib.BitFns
import Derived.Laws.BitsAllLaws
import Derived.Deep.RegionLaw
namespace Go.Proofs.YtnhhnjmjodmacaaGreatDoor.Sha
open Go.ChangeShapes Go.WideShapes Go.ChangeAt Go.RowKit
set_option linter.unusedVariables false
/-- The hash of a key. -/
def kh (k : ByteArray) : ByteArray := hashV (bytesI k)
/-- A right map: leaves and forks; a fork has the hash of a key below it. -/
inductive Tr where
  | leaf (key val : ByteArray)
  | fork (a : Nat) (hash : ByteArray) (l r : Tr)
deriving Inhabited
def Tr.hash : Tr → ByteArray
  | .leaf k _ => kh k
  | .fork _ h _ _ => h
/-- The first bit at which two hashes differ, from a place on, so many bits further at most. -/
def fdF (x y : ByteArray) : Nat → Nat → Nat
  | 0, i => i
  | n + 1, i => if bitN x i = bitN y i then fdF x y n (i + 1) else i
theorem fdF_facts (x y : ByteArray) : ∀ n i, i ≤ fdF x y n i ∧ fdF x y n i ≤ i + n ∧ (∀ j, i ≤ j → j < fdF x y n i → bitN x j = bitN y j) ∧ (fdF x y n i < i + n → bitN x (fdF x y n i) ≠ bitN y (fdF x y n i))
  | 0, i => ⟨Nat.le_refl _, Nat.le_refl _, fun j h1 h2 => by simp [fdF] at h2; omega, fun h => by simp [fdF] at h⟩
  | n + 1, i => by
    unfold fdF
    split
    · rename_i h
      obtain ⟨h1, h2, h3, h4⟩ := fdF_facts x y n (i + 1)
      refine ⟨by omega, by omega, fun j a b => ?_, fun a => h4 (by omega)⟩
      rcases Nat.lt_or_ge i j with c | c
      · exact h3 j (by omega) b
      · obtain rfl : j = i := by omega
        exact h
    · rename_i h
      exact ⟨Nat.le_refl _, by omega, fun j a b => by omega, fun _ => h⟩
def fd (x y : ByteArray) : Nat := fdF x y 256 0
theorem fd_le (x y : ByteArray) : fd x y ≤ 256 := by have := (fdF_facts x y 256 0).2.1; unfold fd; omega
theorem fd_iff (x y : ByteArray) (a : Nat) (ha : a < 256) : fd x y = a ↔ (∀ i, i < a → bitN x i = bitN y i) ∧ bitN x a ≠ bitN y a := by
  obtain ⟨_, h2, h3, h4⟩ := fdF_facts x y 256 0
  unfold fd
  constructor
  · intro e
    rw [e] at h3 h4
    exact ⟨fun i hi => h3 i (by omega) hi, h4 (by omega)⟩
  · rintro ⟨h, hn⟩
    generalize fdF x y 256 0 = q at *
    rcases Nat.lt_trichotomy q a with c | c | c
    · exact absurd (h q c) (h4 (by omega))
    · exact c
    · exact absurd (h3 a (by omega) c) hn
def okK (k : ByteArray) : Bool := decide (1 ≤ k.size) && decide (k.size ≤ 24)
theorem okK_iff {k : ByteArray} : okK k = true ↔ 1 ≤ k.size ∧ k.size ≤ 24 := by simp [okK]
theorem kid_lt {k v : ByteArray} {a : Int} {l : List Br} {b : Br} (h : b ∈ l) : SizeOf.sizeOf b < SizeOf.sizeOf (Br.mk k v a l) := by
  have := List.sizeOf_lt_of_mem h
  simp only [Br.mk.sizeOf_spec]; omega
/-- What readMap's node makes of a branch: the map, and the room that is left. -/
def readV : Br → Int → Nat → Option (Tr × Nat)
  | .mk k v a ks, least, room =>
    if a = 256 then
      if okK k = true ∧ v.size ≤ 60 ∧ ks.length = 0 ∧ room ≠ 0 then some (.leaf k v, room - 1) else none
    else if h : least ≤ a ∧ a ≤ 255 ∧ ks.length = 2 ∧ k.size = 0 ∧ v.size = 0 then
      match readV (ks[0]'(by omega)) (a + 1) room with
      | none => none
      | some (t0, r0) =>
        match readV (ks[1]'(by omega)) (a + 1) r0 with
        | none => none
        | some (t1, r1) => if fd t0.hash t1.hash = a.toNat ∧ bitN t0.hash a.toNat = 0 then some (.fork a.toNat t0.hash t0 t1, r1) else none
    else none
termination_by b => SizeOf.sizeOf b
decreasing_by
  · exact kid_lt (List.getElem_mem _)
  · exact kid_lt (List.getElem_mem _)
/-- How many leaves the specification counts. -/
def cv (b : Br) (least : Int) (pl : List Int) (left : Int) : Int :=
  match readV b least left.toNat with
  | some (t, r) => if bitL t.hash pl.length = pl then left - r else -1
  | none => -1
def emptyBr (b : Br) : Bool := decide (b.key.size = 0) && (decide (b.val.size = 0) && (decide (b.at_ = 0) && decide (b.kids.length = 0)))
end Go.Proofs.YtnhhnjmjodmacaaGreatDoor.Sha
namespace Go.Proofs.YtnhhnjmjodmacaaGreatDoor.Sha
open Go.ChangeShapes Go.WideShapes Go.ChangeAt Go.RowKit
set_option linter.unusedVariables false
theorem kh_size {k : ByteArray} (h : k.size ≤ 65536) : (kh k).size = 32 := hash_size (by rw [bytesI_len]; exact h)
set_option maxRecDepth 100000 in
set_option maxHeartbeats 1000000 in
theorem l07Hash_any (k : ByteArray) (w : World) (hk : k.size ≤ 65536) :
    Calls Tryz.prog 89 #[.string k] w fun e w' => e = .returned (.string (kh k)) ∧ Below w.heap.size w w' := by
  obtain ⟨cap, w1, hcv, hB, hb1⟩ := str_bytesB k w (by unfold maxLen; omega)
  have hl : (bytesI k).length = k.size := bytesI_len k
  have HV : Hid (kh k = strOfNums (textL (stAt (bytesI k) (padLen (bytesI k).length / 64)))) := hide (hashV_yes (by omega))
  have hB' : Bytes w1 (.slice (some ⟨w.heap.size, 0, none⟩) (bytesI k).length cap) (bytesI k) := by rw [hl]; exact hB
  have HL := hide (l01Hash_any _ _ _ w1 hB' (by omega))
  rw [hl] at HL HV
  have B1 := hide hb1
  clear hb1 hB hB' hl
  go_enter Tryz.func89, Tryz.ntmps89
  go_wp2_with fail
  refine (unhide HL).mono ?_
  rintro e w3 ⟨rfl, hb3⟩
  have K := hide ((unhide B1).trans (hb3.mono (unhide B1).size))
  clear hb3
  rw [← unhide HV]
  go_wp2_with fail
  go_ret
  exact ⟨rfl, unhide K⟩
end Go.Proofs.YtnhhnjmjodmacaaGreatDoor.Sha
namespace Go.Proofs.YtnhhnjmjodmacaaGreatDoor.Sha
open Go.ChangeShapes Go.WideShapes Go.ChangeAt Go.RowKit
set_option linter.unusedVariables false
theorem wrap64_small8 {n : Int} (h0 : 0 ≤ n) (h1 : n < 1000000) : wrap64 n = n := by unfold wrap64; omega
set_option maxRecDepth 100000 in
theorem fold_tab8 : (⟨(([0, 1, 2, 2, 3, 3, 3, 3, 4, 4, 4, 4, 4, 4, 4, 4, 5, 5, 5, 5, 5, 5, 5, 5, 5, 5, 5, 5, 5, 5, 5, 5, 6, 6, 6, 6, 6, 6, 6, 6, 6, 6, 6, 6, 6, 6, 6, 6, 6, 6, 6, 6, 6, 6, 6, 6, 6, 6, 6, 6, 6, 6, 6, 6].append [7, 7, 7, 7, 7, 7, 7, 7, 7, 7, 7, 7, 7, 7, 7, 7, 7, 7, 7, 7, 7, 7, 7, 7, 7, 7, 7, 7, 7, 7, 7, 7, 7, 7, 7, 7, 7, 7, 7, 7, 7, 7, 7, 7, 7, 7, 7, 7, 7, 7, 7, 7, 7, 7, 7, 7, 7, 7, 7, 7, 7, 7, 7, 7]).append ([8, 8, 8, 8, 8, 8, 8, 8, 8, 8, 8, 8, 8, 8, 8, 8, 8, 8, 8, 8, 8, 8, 8, 8, 8, 8, 8, 8, 8, 8, 8, 8, 8, 8, 8, 8, 8, 8, 8, 8, 8, 8, 8, 8, 8, 8, 8, 8, 8, 8, 8, 8, 8, 8, 8, 8, 8, 8, 8, 8, 8, 8, 8, 8].append [8, 8, 8, 8, 8, 8, 8, 8, 8, 8, 8, 8, 8, 8, 8, 8, 8, 8, 8, 8, 8, 8, 8, 8, 8, 8, 8, 8, 8, 8, 8, 8, 8, 8, 8, 8, 8, 8, 8, 8, 8, 8, 8, 8, 8, 8, 8, 8, 8, 8, 8, 8, 8, 8, 8, 8, 8, 8, 8, 8, 8, 8, 8, 8])).toArray⟩ : ByteArray) = Lib.len8tab := by kernel_rfl
set_option maxRecDepth 100000 in
set_option maxHeartbeats 1000000 in
theorem len8_any (x : Int) (w : World) (h0 : 0 ≤ x) (h1 : x ≤ 255) :
    Calls Tryz.prog 139 #[.int .u8 x] w fun e w' => e = .returned (.int .i64 (Lib.bitLen x.toNat)) ∧ w' = w := by
  go_enter Tryz.func139, Tryz.ntmps139
  rw [fold_tab8]
  go_wp2
  go_ret
  have e := Lib.len8_eq ⟨x.toNat, by omega⟩
  have l := Lib.bitLen_le8 ⟨x.toNat, by omega⟩
  dsimp only at e l
  rw [Int.toNat_of_nonneg h0] at e
  refine ⟨ret_int ?_, rfl⟩
  rw [e]
  exact wrap64_small8 (by omega) (by omega)
set_option maxRecDepth 100000 in
theorem lead8_any (x : Int) (w : World) (h0 : 0 ≤ x) (h1 : x ≤ 255) :
    Calls Tryz.prog 129 #[.int .u8 x] w fun e w' => e = .returned (.int .i64 (8 - (Lib.bitLen x.toNat : Int))) ∧ w' = w := by
  have l := Lib.bitLen_le8 ⟨x.toNat, by omega⟩
  dsimp only at l
  have H := hide (len8_any x w h0 h1)
  generalize Lib.bitLen x.toNat = q at *
  go_enter Tryz.func129, Tryz.ntmps129
  go_wp2_with fail
  refine (unhide H).mono ?_
  rintro e w9 ⟨rfl, hw9⟩
  subst w9
  go_wp2_with fail
  go_ret
  exact ⟨rfl, rfl⟩
theorem bl_bits : ∀ d : Fin 256, d.val ≠ 0 → 1 ≤ Lib.bitLen d.val ∧ Lib.bitLen d.val ≤ 8 ∧ d.val.testBit (Lib.bitLen d.val - 1) = true ∧ ∀ j : Fin 8, Lib.bitLen d.val ≤ j.val → d.val.testBit j.val = false := by decide +kernel
/-- The byte of a text. -/
def byN (s : ByteArray) (i : Nat) : Nat := (s.data.toList.getD i 0).toNat
theorem bAt_byN (s : ByteArray) (i : Nat) : bAt s i = (byN s i : Int) := rfl
theorem byN_lt (s : ByteArray) (i : Nat) : byN s i < 256 := (s.data.toList.getD i 0).toNat_lt
theorem bitN_test (s : ByteArray) (i : Nat) : bitN s i = if (byN s (i / 8)).testBit (7 - i % 8) then 1 else 0 := by
  unfold bitN
  rw [bAt_byN, Nat.testBit_eq_decide_div_mod_eq]
  have e : (byN s (i / 8) : Int) / 2 ^ (7 - i % 8) % 2 = ((byN s (i / 8) / 2 ^ (7 - i % 8) % 2 : Nat) : Int) := by simp
  rw [e]
  have := Nat.mod_lt (byN s (i / 8) / 2 ^ (7 - i % 8)) (show 0 < 2 by omega)
  generalize byN s (i / 8) / 2 ^ (7 - i % 8) % 2 = q at *
  by_cases h : q = 1
  · simp [h]
  · have : q = 0 := by omega
    simp [this]
theorem fd_byte (x y : ByteArray) (k : Nat) (hk : k < 32) (hs : ∀ j, j < k → byN x j = byN y j) (hd : byN x k ^^^ byN y k ≠ 0) : fd x y = 8 * k + (8 - Lib.bitLen (byN x k ^^^ byN y k)) := by
  have hlt : byN x k ^^^ byN y k < 256 := Nat.xor_lt_two_pow (n := 8) (byN_lt x k) (byN_lt y k)
  obtain ⟨h1, h2, h3, h4⟩ := bl_bits ⟨byN x k ^^^ byN y k, hlt⟩ hd
  dsimp only at h1 h2 h3 h4
  generalize Lib.bitLen (byN x k ^^^ byN y k) = bl at *
  rw [fd_iff _ _ _ (by omega)]
  constructor
  · intro i hi
    rw [bitN_test, bitN_test]
    rcases Nat.lt_or_ge (i / 8) k with h | h
    · rw [hs _ h]
    · have e : i / 8 = k := by omega
      have := h4 ⟨7 - i % 8, by omega⟩ (by dsimp only; omega)
      dsimp only at this
      rw [Nat.testBit_xor] at this
      rw [e]
      generalize (byN x k).testBit (7 - i % 8) = b1 at *
      generalize (byN y k).testBit (7 - i % 8) = b2 at *
      cases b1 <;> cases b2 <;> simp_all
  · rw [bitN_test, bitN_test]
    have e1 : (8 * k + (8 - bl)) / 8 = k := by omega
    have e2 : 7 - (8 * k + (8 - bl)) % 8 = bl - 1 := by omega
    rw [e1, e2]
    rw [Nat.testBit_xor] at h3
    generalize (byN x k).testBit (bl - 1) = b1 at *
    generalize (byN y k).testBit (bl - 1) = b2 at *
    cases b1 <;> cases b2 <;> simp_all
theorem fd_same (x y : ByteArray) (hs : ∀ j, j < 32 → byN x j = byN y j) : fd x y = 256 := by
  obtain ⟨_, h2, h3, h4⟩ := fdF_facts x y 256 0
  unfold fd
  generalize fdF x y 256 0 = q at *
  rcases Nat.lt_or_ge q 256 with h | h
  · exfalso
    apply h4 (by omega)
    rw [bitN_test, bitN_test, hs _ (by omega)]
  · omega
set_option maxRecDepth 100000 in
set_option maxHeartbeats 1000000 in
theorem firstDiff_any (x y : ByteArray) (w : World) (hx : x.size = 32) (hy : y.size = 32) :
    Calls Tryz.prog 113 #[.string x, .string y] w fun e w' => e = .returned (.int .i64 (fd x y)) ∧ ∃ n, w' = w.drewN n := by
  go_enter Tryz.func113, Tryz.ntmps113
  go_wp2_with fail
  go_loopw [5, 6, 7] (fun _ _ i wr => ∃ k : Nat, k ≤ 32 ∧ i = .int .i64 k ∧ (∀ j, j < k → byN x j = byN y j) ∧ ∃ n, wr = w.drewN n) (fun _ _ i _ => 32 - (intOf i).toNat)
  case atStart => exact ⟨0, Nat.zero_le _, rfl, fun j hj => by omega, 0, rfl⟩
  case round =>
    obtain ⟨k, hk, rfl, hs, n, hn⟩ := hrel
    have HN := hide hn
    have HS := hide hs
    clear hn hs
    by_cases hlt : k < 32
    · have hk0 : (0 : Int) ≤ (k : Int) := by omega
      have hk1 : (k : Int) < (x.size : Int) := by omega
      have hk2 : (k : Int) < (y.size : Int) := by omega
      have e1 := bAt_eq x k (by omega)
      have e2 := bAt_eq y k (by omega)
      have e3 : bits .xor .u8 (bAt x k) (bAt y k) = ((byN x k ^^^ byN y k : Nat) : Int) := u8_xor_nat _ _ (byN_lt x k) (byN_lt y k)
      have hlt8 : byN x k ^^^ byN y k < 256 := Nat.xor_lt_two_pow (n := 8) (byN_lt x k) (byN_lt y k)
      have HFB := hide (fun hd => fd_byte x y k hlt (unhide HS) hd)
      have HX0 : Hid (byN x k ^^^ byN y k = 0 → byN x k = byN y k) := hide (fun h => Nat.eq_of_testBit_eq (fun i => by have q := congrArg (fun z => z.testBit i) h; simp [Nat.testBit_xor] at q; exact q))
      generalize byN x k ^^^ byN y k = d at *
      generalize bAt x k = bx at *
      generalize bAt y k = by' at *
      go_wp2_with fail
      go_quiet (fail)
      have HN2 : Hid (∃ n', wr.drewN nq = w.drewN n') := hide ⟨n + nq, by rw [unhide HN, World.drewN_drewN]⟩
      generalize wr.drewN nq = w2 at *
      by_cases hd : d = 0
      · have HE := hide (unhide HX0 hd)
        subst hd
        go_wp2_with fail
        refine ⟨⟨k + 1, by omega, by go_num, fun j hj => ?_, unhide HN2⟩, ?_⟩
        · rcases Nat.lt_or_ge j k with h | h
          · exact unhide HS j h
          · obtain rfl : j = k := by omega
            exact unhide HE
        · simp [intOf]; omega
      · have H := hide (unhide HFB hd)
        have hd2 : (d : Int) ≠ 0 := by omega
        have l := (bl_bits ⟨d, hlt8⟩ hd)
        have l1 := l.1
        have l2 := l.2.1
        dsimp only at l1 l2
        have HL := hide (lead8_any (d : Int) w2 (by omega) (by omega))
        rw [Int.toNat_natCast] at HL
        clear l HX0 HFB
        generalize Lib.bitLen d = bl at *
        go_wp2_with fail
        refine (unhide HL).mono ?_
        rintro e w9 ⟨rfl, hw9⟩
        subst w9
        go_wp2_with fail
        go_ret
        exact ⟨ret_int (by rw [unhide H]; omega), unhide HN2⟩
    · obtain rfl : k = 32 := by omega
      have H := hide (fd_same x y (unhide HS))
      go_wp2_with fail
      go_ret
      exact ⟨ret_int (by rw [unhide H]; rfl), n, unhide HN⟩
end Go.Proofs.YtnhhnjmjodmacaaGreatDoor.Sha
namespace Go.Proofs.YtnhhnjmjodmacaaGreatDoor.Sha
open Go.ChangeShapes Go.WideShapes Go.ChangeAt Go.RowKit
set_option linter.unusedVariables false
set_option linter.unusedSimpArgs false
/-- The cells of a leaf and of a fork. -/
def lfC (k v : ByteArray) : List Value := [.string k, .string v, .string (kh k), .int .i64 256, .pointer none, .pointer none]
def fkC (h : ByteArray) (a : Nat) (p q : Nat) : List Value := [.string ⟨#[]⟩, .string ⟨#[]⟩, .string h, .int .i64 a, .pointer (some ⟨p, 0, none⟩), .pointer (some ⟨q, 0, none⟩)]
/-- The node in block p is this map's; its nodes lie in blocks of S, no two in one. -/
inductive Nd (w : World) : (Nat → Prop) → Nat → Tr → Prop
  | leaf (S : Nat → Prop) (p : Nat) (k v : ByteArray) : S p → Blk w p (lfC k v) → Nd w S p (.leaf k v)
  | fork (S Sl Sr : Nat → Prop) (p a : Nat) (h : ByteArray) (l r : Tr) (pl pr : Nat) : S p → (∀ b, Sl b → S b ∧ b ≠ p) → (∀ b, Sr b → S b ∧ b ≠ p) → (∀ b, Sl b → ¬ Sr b) → Blk w p (fkC h a pl pr) → Nd w Sl pl l → Nd w Sr pr r → Nd w S p (.fork a h l r)
theorem Nd.touch {w w' : World} {S T : Nat → Prop} {p : Nat} {t : Tr} (h : Nd w S p t) (ht : Touch T w w') (hn : ∀ k, S k → ¬ T k) : Nd w' S p t := by
  induction h with
  | leaf S p k v h0 h1 => exact .leaf S p k v h0 (h1.kept ht (hn p h0))
  | fork S Sl Sr p a h l r pl pr h0 h1 h2 h3 h4 _ _ i1 i2 => exact .fork S Sl Sr p a h l r pl pr h0 h1 h2 h3 (h4.kept ht (hn p h0)) (i1 (fun k hk => hn k (h1 k hk).1)) (i2 (fun k hk => hn k (h2 k hk).1))
theorem Nd.blw {w w' : World} {S : Nat → Prop} {p : Nat} {t : Tr} (h : Nd w S p t) (hb : Below w.heap.size w w') : Nd w' S p t := h.touch (T := fun _ => False) (Touch.ofBelow hb) (fun _ _ h => h)
theorem Nd.mono {w : World} {S T : Nat → Prop} {p : Nat} {t : Tr} (h : Nd w S p t) (hst : ∀ k, S k → T k) : Nd w T p t := by
  cases h with
  | leaf S p k v h0 h1 => exact .leaf T p k v (hst p h0) h1
  | fork S Sl Sr p a h l r pl pr h0 h1 h2 h3 h4 h5 h6 => exact .fork T Sl Sr p a h l r pl pr (hst p h0) (fun b hb => ⟨hst b (h1 b hb).1, (h1 b hb).2⟩) (fun b hb => ⟨hst b (h2 b hb).1, (h2 b hb).2⟩) h3 h4 h5 h6
theorem Nd.here {w : World} {S : Nat → Prop} {p : Nat} {t : Tr} (h : Nd w S p t) : S p ∧ p < w.heap.size := by
  cases h with
  | leaf S p k v h0 h1 => exact ⟨h0, h1.1⟩
  | fork S Sl Sr p a h l r pl pr h0 h1 h2 h3 h4 => exact ⟨h0, h4.1⟩
theorem Nd.hashC {w : World} {S : Nat → Prop} {p : Nat} {t : Tr} (h : Nd w S p t) : w.cell? ⟨p, 2, none⟩ = some (.string t.hash) := by
  cases h with
  | leaf S p k v h0 h1 => exact h1.cell 2 rfl
  | fork S Sl Sr p a h l r pl pr h0 h1 h2 h3 h4 => exact h4.cell 2 rfl

set_option maxRecDepth 100000 in
set_option maxHeartbeats 1000000 in
theorem newLeaf_any (k v : ByteArray) (w : World) (hk : k.size ≤ 65536) (ht : Tab w) :
    Calls Tryz.prog 128 #[.string k, .string v] w fun e w' => ∃ p, e = .returned (.pointer (some ⟨p, 0, none⟩)) ∧ w.heap.size ≤ p ∧ Blk w' p (lfC k v) ∧ Below w.heap.size w w' := by
  obtain ⟨cap, w1, hcv, hB, hb1⟩ := str_bytesB k w (by unfold maxLen; omega)
  have HH := hide (implHash_any _ _ w1 hB (ht.below hb1).2 (ht.below hb1).1)
  have HV : Hid (kh k = hashV (bytesI k)) := rfl
  have B1 := hide hb1
  clear hb1 hB ht
  go_enter Tryz.func128, Tryz.ntmps128
  go_wp2_with fail
  refine (unhide HH).mono ?_
  rintro e w3 ⟨rfl, hb3⟩
  have K := hide ((unhide B1).trans (hb3.mono (unhide B1).size))
  clear hb3
  rw [← unhide HV]
  have KN := hide (Blk.new w3 #[.string k, .string v, .string (kh k), .int .i64 256, .pointer none, .pointer none] 149 w3.heap.size rfl)
  have K4 := hide ((unhide K).alloc (unhide K).size (.cells #[.string k, .string v, .string (kh k), .int .i64 256, .pointer none, .pointer none] 149))
  go_wp2_with fail
  go_ret
  exact ⟨w3.heap.size, rfl, (unhide K).size, unhide KN, unhide K4⟩
/-- Where newFork puts its two maps. -/
def kidsV (x y : ByteArray) (a p q : Nat) : Nat × Nat := if bitN x a = 0 then (p, q) else (q, p)
set_option maxRecDepth 100000 in
set_option maxHeartbeats 2000000 in
theorem newFork_any (a : Nat) (p q : Nat) (x y : ByteArray) (w : World) (ha : a < 256) (hx : x.size = 32) (hy : y.size = 32) (hxy : bitN x a ≠ bitN y a)
    (hp : p < w.heap.size) (hq : q < w.heap.size) (cx : w.cell? ⟨p, 2, none⟩ = some (.string x)) (cy : w.cell? ⟨q, 2, none⟩ = some (.string y)) :
    Calls Tryz.prog 115 #[.int .i64 a, .pointer (some ⟨p, 0, none⟩), .pointer (some ⟨q, 0, none⟩)] w fun e w' => ∃ f, e = .returned (.pointer (some ⟨f, 0, none⟩)) ∧ w.heap.size ≤ f ∧ Blk w' f (fkC x a (kidsV x y a p q).1 (kidsV x y a p q).2) ∧ Below w.heap.size w w' := by
  have HX := hide (fun wx => hashBit_any x a wx hx ha)
  have HY := hide (fun wx => hashBit_any y a wx hy ha)
  have X0 := hide (Blk.new w #[.string ⟨#[]⟩, .string ⟨#[]⟩, .string x, .int .i64 a, .pointer none, .pointer none] 149 w.heap.size rfl)
  have B0 := hide ((Below.refl w.heap.size w).alloc (Nat.le_refl _) (.cells #[.string ⟨#[]⟩, .string ⟨#[]⟩, .string x, .int .i64 a, .pointer none, .pointer none] 149))
  have c1 := ((unhide B0).cell (p := ⟨p, 2, none⟩) hp).trans cx
  have c2 := ((unhide B0).cell (p := ⟨q, 2, none⟩) hq).trans cy
  have hpn : p ≠ w.heap.size := by omega
  have hqn : q ≠ w.heap.size := by omega
  have HK : Hid (kidsV x y a p q = if bitN x a = 0 then (p, q) else (q, p)) := rfl
  have hx1 := bitN_01 x a
  have hy1 := bitN_01 y a
  generalize bitN x a = bx at *
  generalize bitN y a = by' at *
  generalize kidsV x y a p q = kk at *
  go_enter Tryz.func115, Tryz.ntmps115
  go_wp2_with fail
  clear cx cy
  generalize w.alloc (.cells #[.string ⟨#[]⟩, .string ⟨#[]⟩, .string x, .int .i64 a, .pointer none, .pointer none] 149) = w1 at *
  generalize hX : w.heap.size = X at *
  have f4 := (unhide X0).fro 4
  have f5 := (unhide X0).fro 5
  have d4 := (unhide X0).cell 4 rfl
  have d5 := (unhide X0).cell 5 rfl
  rcases hx1 with rfl | rfl
  · obtain rfl : by' = 1 := by omega
    have s1 : (w1.setCell ⟨X, 4, none⟩ (.pointer (some ⟨p, 0, none⟩))).drew.cell? ⟨p, 2, none⟩ = some (.string x) := (World.cell?_setCell_other _ _ _ _ (by simp)).trans c1
    go_region_held3 (fun wx => wx.cell? ⟨p, 2, none⟩ = some (.string x)) (first | go_keep | exact s1) ((go_at_call 114; refine (unhide HX _).mono ?_; rintro e w9 ⟨rfl, hw9⟩; subst w9))
    have Y2 : Hid (Blk (w1.setCell ⟨X, 4, none⟩ (.pointer (some ⟨p, 0, none⟩))).drew X ([.string ⟨#[]⟩, .string ⟨#[]⟩, .string x, .int .i64 a, .pointer none, .pointer none].set 4 (.pointer (some ⟨p, 0, none⟩)))) := hide (((unhide X0).set 4 (.pointer (some ⟨p, 0, none⟩)) (by simp)).drewN 1)
    have B2 : Hid (Below X w (w1.setCell ⟨X, 4, none⟩ (.pointer (some ⟨p, 0, none⟩))).drew) := hide (((unhide B0).setCell (p := ⟨X, 4, none⟩) (Nat.le_refl _) (.pointer (some ⟨p, 0, none⟩))).drew)
    have e2 : (w1.setCell ⟨X, 4, none⟩ (.pointer (some ⟨p, 0, none⟩))).drew.cell? ⟨q, 2, none⟩ = some (.string y) := (World.cell?_setCell_other _ _ _ _ (by simp)).trans c2
    generalize (w1.setCell ⟨X, 4, none⟩ (.pointer (some ⟨p, 0, none⟩))).drew = w2 at *
    clear d4 d5 f4 f5 c1 c2 s1
    have f4 := (unhide Y2).fro 4
    have f5 := (unhide Y2).fro 5
    have d4 := (unhide Y2).cell 4 rfl
    have d5 := (unhide Y2).cell 5 rfl
    have s2 : (w2.setCell ⟨X, 5, none⟩ (.pointer (some ⟨q, 0, none⟩))).drew.cell? ⟨q, 2, none⟩ = some (.string y) := (World.cell?_setCell_other _ _ _ _ (by simp)).trans e2
    go_wp2_with fail
    go_region_held3 (fun wx => wx.cell? ⟨q, 2, none⟩ = some (.string y)) (first | go_keep | exact s2) ((go_at_call 114; refine (unhide HY _).mono ?_; rintro e w9 ⟨rfl, hw9⟩; subst w9))
    have Y3 : Hid (Blk (w2.setCell ⟨X, 5, none⟩ (.pointer (some ⟨q, 0, none⟩))).drew X (([.string ⟨#[]⟩, .string ⟨#[]⟩, .string x, .int .i64 a, .pointer none, .pointer none].set 4 (.pointer (some ⟨p, 0, none⟩))).set 5 (.pointer (some ⟨q, 0, none⟩)))) := hide (((unhide Y2).set 5 (.pointer (some ⟨q, 0, none⟩)) (by simp)).drewN 1)
    have B3 : Hid (Below X w (w2.setCell ⟨X, 5, none⟩ (.pointer (some ⟨q, 0, none⟩))).drew) := hide (((unhide B2).setCell (p := ⟨X, 5, none⟩) (Nat.le_refl _) (.pointer (some ⟨q, 0, none⟩))).drew)
    generalize (w2.setCell ⟨X, 5, none⟩ (.pointer (some ⟨q, 0, none⟩))).drew = w3 at *
    clear d4 d5 f4 f5 e2 s2
    go_wp2_with fail
    go_ret
    refine ⟨X, rfl, Nat.le_of_eq hX, ?_, by rw [hX]; exact unhide B3⟩
    rw [unhide HK]
    exact unhide Y3
  · obtain rfl : by' = 0 := by omega
    have s1 : (w1.setCell ⟨X, 5, none⟩ (.pointer (some ⟨p, 0, none⟩))).drew.cell? ⟨p, 2, none⟩ = some (.string x) := (World.cell?_setCell_other _ _ _ _ (by simp)).trans c1
    go_region_held3 (fun wx => wx.cell? ⟨p, 2, none⟩ = some (.string x)) (first | go_keep | exact s1) ((go_at_call 114; refine (unhide HX _).mono ?_; rintro e w9 ⟨rfl, hw9⟩; subst w9))
    have Y2 : Hid (Blk (w1.setCell ⟨X, 5, none⟩ (.pointer (some ⟨p, 0, none⟩))).drew X ([.string ⟨#[]⟩, .string ⟨#[]⟩, .string x, .int .i64 a, .pointer none, .pointer none].set 5 (.pointer (some ⟨p, 0, none⟩)))) := hide (((unhide X0).set 5 (.pointer (some ⟨p, 0, none⟩)) (by simp)).drewN 1)
    have B2 : Hid (Below X w (w1.setCell ⟨X, 5, none⟩ (.pointer (some ⟨p, 0, none⟩))).drew) := hide (((unhide B0).setCell (p := ⟨X, 5, none⟩) (Nat.le_refl _) (.pointer (some ⟨p, 0, none⟩))).drew)
    have e2 : (w1.setCell ⟨X, 5, none⟩ (.pointer (some ⟨p, 0, none⟩))).drew.cell? ⟨q, 2, none⟩ = some (.string y) := (World.cell?_setCell_other _ _ _ _ (by simp)).trans c2
    generalize (w1.setCell ⟨X, 5, none⟩ (.pointer (some ⟨p, 0, none⟩))).drew = w2 at *
    clear d4 d5 f4 f5 c1 c2 s1
    have f4 := (unhide Y2).fro 4
    have f5 := (unhide Y2).fro 5
    have d4 := (unhide Y2).cell 4 rfl
    have d5 := (unhide Y2).cell 5 rfl
    have s2 : (w2.setCell ⟨X, 4, none⟩ (.pointer (some ⟨q, 0, none⟩))).drew.cell? ⟨q, 2, none⟩ = some (.string y) := (World.cell?_setCell_other _ _ _ _ (by simp)).trans e2
    go_wp2_with fail
    go_region_held3 (fun wx => wx.cell? ⟨q, 2, none⟩ = some (.string y)) (first | go_keep | exact s2) ((go_at_call 114; refine (unhide HY _).mono ?_; rintro e w9 ⟨rfl, hw9⟩; subst w9))
    have Y3 : Hid (Blk (w2.setCell ⟨X, 4, none⟩ (.pointer (some ⟨q, 0, none⟩))).drew X (([.string ⟨#[]⟩, .string ⟨#[]⟩, .string x, .int .i64 a, .pointer none, .pointer none].set 5 (.pointer (some ⟨p, 0, none⟩))).set 4 (.pointer (some ⟨q, 0, none⟩)))) := hide (((unhide Y2).set 4 (.pointer (some ⟨q, 0, none⟩)) (by simp)).drewN 1)
    have B3 : Hid (Below X w (w2.setCell ⟨X, 4, none⟩ (.pointer (some ⟨q, 0, none⟩))).drew) := hide (((unhide B2).setCell (p := ⟨X, 4, none⟩) (Nat.le_refl _) (.pointer (some ⟨q, 0, none⟩))).drew)
    generalize (w2.setCell ⟨X, 4, none⟩ (.pointer (some ⟨q, 0, none⟩))).drew = w3 at *
    clear d4 d5 f4 f5 e2 s2
    go_wp2_with fail
    go_ret
    refine ⟨X, rfl, Nat.le_of_eq hX, ?_, by rw [hX]; exact unhide B3⟩
    rw [unhide HK]
    exact unhide Y3
end Go.Proofs.YtnhhnjmjodmacaaGreatDoor.Sha
