/- Where two hashes differ: impl.firstDifference; nodes of a map: newLeaf, newFork. -/
import Derived.Test.YtnajpeaieeaflaaDoorBrK
import Derived.Deep.RegionHeld3
import Derived.BigQuiet
import Derived.Lib.BitFns
import Derived.Laws.BitsAllLaws
namespace Go.Proofs.YtnajpeaieeaflaaDoor.Sha
open Go.ChangeShapes Go.WideShapes Go.ChangeAt Go.RowKit
set_option linter.unusedVariables false

theorem wrap64_small8 {n : Int} (h0 : 0 ≤ n) (h1 : n < 1000000) : wrap64 n = n := by unfold wrap64; omega
set_option maxRecDepth 100000 in
theorem fold_tab8 : (⟨(([0, 1, 2, 2, 3, 3, 3, 3, 4, 4, 4, 4, 4, 4, 4, 4, 5, 5, 5, 5, 5, 5, 5, 5, 5, 5, 5, 5, 5, 5, 5, 5, 6, 6, 6, 6, 6, 6, 6, 6, 6, 6, 6, 6, 6, 6, 6, 6, 6, 6, 6, 6, 6, 6, 6, 6, 6, 6, 6, 6, 6, 6, 6, 6].append [7, 7, 7, 7, 7, 7, 7, 7, 7, 7, 7, 7, 7, 7, 7, 7, 7, 7, 7, 7, 7, 7, 7, 7, 7, 7, 7, 7, 7, 7, 7, 7, 7, 7, 7, 7, 7, 7, 7, 7, 7, 7, 7, 7, 7, 7, 7, 7, 7, 7, 7, 7, 7, 7, 7, 7, 7, 7, 7, 7, 7, 7, 7, 7]).append ([8, 8, 8, 8, 8, 8, 8, 8, 8, 8, 8, 8, 8, 8, 8, 8, 8, 8, 8, 8, 8, 8, 8, 8, 8, 8, 8, 8, 8, 8, 8, 8, 8, 8, 8, 8, 8, 8, 8, 8, 8, 8, 8, 8, 8, 8, 8, 8, 8, 8, 8, 8, 8, 8, 8, 8, 8, 8, 8, 8, 8, 8, 8, 8].append [8, 8, 8, 8, 8, 8, 8, 8, 8, 8, 8, 8, 8, 8, 8, 8, 8, 8, 8, 8, 8, 8, 8, 8, 8, 8, 8, 8, 8, 8, 8, 8, 8, 8, 8, 8, 8, 8, 8, 8, 8, 8, 8, 8, 8, 8, 8, 8, 8, 8, 8, 8, 8, 8, 8, 8, 8, 8, 8, 8, 8, 8, 8, 8])).toArray⟩ : ByteArray) = Lib.len8tab := by kernel_rfl
set_option maxRecDepth 100000 in
set_option maxHeartbeats 1000000 in
theorem len8_any (x : Int) (w : World) (h0 : 0 ≤ x) (h1 : x ≤ 255) :
    Calls Tryd.prog 94 #[.int .u8 x] w fun e w' => e = .returned (.int .i64 (Lib.bitLen x.toNat)) ∧ w' = w := by
  go_enter Tryd.func94, Tryd.ntmps94
  rw [fold_tab8]
  go_wp2
  go_ret
  have e := Lib.len8_eq ⟨x.toNat, by omega⟩
  have l := Lib.bitLen_le8 ⟨x.toNat, by omega⟩
  dsimp only at e l
  rw [Int.toNat_of_nonneg h0] at e
  refine ⟨ret_int ?_, rfl⟩
  rw [e]
  exact wrap64_small8 (by omega) (by omega)
set_option maxRecDepth 100000 in
theorem lead8_any (x : Int) (w : World) (h0 : 0 ≤ x) (h1 : x ≤ 255) :
    Calls Tryd.prog 92 #[.int .u8 x] w fun e w' => e = .returned (.int .i64 (8 - (Lib.bitLen x.toNat : Int))) ∧ w' = w := by
  have l := Lib.bitLen_le8 ⟨x.toNat, by omega⟩
  dsimp only at l
  have H := hide (len8_any x w h0 h1)
  generalize Lib.bitLen x.toNat = q at *
  go_enter Tryd.func92, Tryd.ntmps92
  go_wp2_with fail
  refine (unhide H).mono ?_
  rintro e w9 ⟨rfl, hw9⟩
  subst w9
  go_wp2_with fail
  go_ret
  exact ⟨rfl, rfl⟩
theorem bl_bits : ∀ d : Fin 256, d.val ≠ 0 → 1 ≤ Lib.bitLen d.val ∧ Lib.bitLen d.val ≤ 8 ∧ d.val.testBit (Lib.bitLen d.val - 1) = true ∧ ∀ j : Fin 8, Lib.bitLen d.val ≤ j.val → d.val.testBit j.val = false := by decide +kernel
/-- The byte of a text. -/
def byN (s : ByteArray) (i : Nat) : Nat := (s.data.toList.getD i 0).toNat
theorem bAt_byN (s : ByteArray) (i : Nat) : bAt s i = (byN s i : Int) := rfl
theorem byN_lt (s : ByteArray) (i : Nat) : byN s i < 256 := (s.data.toList.getD i 0).toNat_lt
theorem bitN_test (s : ByteArray) (i : Nat) : bitN s i = if (byN s (i / 8)).testBit (7 - i % 8) then 1 else 0 := by
  unfold bitN
  rw [bAt_byN, Nat.testBit_eq_decide_div_mod_eq]
  have e : (byN s (i / 8) : Int) / 2 ^ (7 - i % 8) % 2 = ((byN s (i / 8) / 2 ^ (7 - i % 8) % 2 : Nat) : Int) := by simp
  rw [e]
  have := Nat.mod_lt (byN s (i / 8) / 2 ^ (7 - i % 8)) (show 0 < 2 by omega)
  generalize byN s (i / 8) / 2 ^ (7 - i % 8) % 2 = q at *
  by_cases h : q = 1
  · simp [h]
  · have : q = 0 := by omega
    simp [this]
theorem fd_byte (x y : ByteArray) (k : Nat) (hk : k < 32) (hs : ∀ j, j < k → byN x j = byN y j) (hd : byN x k ^^^ byN y k ≠ 0) : fd x y = 8 * k + (8 - Lib.bitLen (byN x k ^^^ byN y k)) := by
  have hlt : byN x k ^^^ byN y k < 256 := Nat.xor_lt_two_pow (n := 8) (byN_lt x k) (byN_lt y k)
  obtain ⟨h1, h2, h3, h4⟩ := bl_bits ⟨byN x k ^^^ byN y k, hlt⟩ hd
  dsimp only at h1 h2 h3 h4
  generalize Lib.bitLen (byN x k ^^^ byN y k) = bl at *
  rw [fd_iff _ _ _ (by omega)]
  constructor
  · intro i hi
    rw [bitN_test, bitN_test]
    rcases Nat.lt_or_ge (i / 8) k with h | h
    · rw [hs _ h]
    · have e : i / 8 = k := by omega
      have := h4 ⟨7 - i % 8, by omega⟩ (by dsimp only; omega)
      dsimp only at this
      rw [Nat.testBit_xor] at this
      rw [e]
      generalize (byN x k).testBit (7 - i % 8) = b1 at *
      generalize (byN y k).testBit (7 - i % 8) = b2 at *
      cases b1 <;> cases b2 <;> simp_all
  · rw [bitN_test, bitN_test]
    have e1 : (8 * k + (8 - bl)) / 8 = k := by omega
    have e2 : 7 - (8 * k + (8 - bl)) % 8 = bl - 1 := by omega
    rw [e1, e2]
    rw [Nat.testBit_xor] at h3
    generalize (byN x k).testBit (bl - 1) = b1 at *
    generalize (byN y k).testBit (bl - 1) = b2 at *
    cases b1 <;> cases b2 <;> simp_all
theorem fd_same (x y : ByteArray) (hs : ∀ j, j < 32 → byN x j = byN y j) : fd x y = 256 := by
  obtain ⟨_, h2, h3, h4⟩ := fdF_facts x y 256 0
  unfold fd
  generalize fdF x y 256 0 = q at *
  rcases Nat.lt_or_ge q 256 with h | h
  · exfalso
    apply h4 (by omega)
    rw [bitN_test, bitN_test, hs _ (by omega)]
  · omega
set_option maxRecDepth 100000 in
set_option maxHeartbeats 1000000 in
theorem firstDiff_any (x y : ByteArray) (w : World) (hx : x.size = 32) (hy : y.size = 32) :
    Calls Tryd.prog 78 #[.string x, .string y] w fun e w' => e = .returned (.int .i64 (fd x y)) ∧ ∃ n, w' = w.drewN n := by
  go_enter Tryd.func78, Tryd.ntmps78
  go_wp2_with fail
  go_loopw [5, 6, 7] (fun _ _ i wr => ∃ k : Nat, k ≤ 32 ∧ i = .int .i64 k ∧ (∀ j, j < k → byN x j = byN y j) ∧ ∃ n, wr = w.drewN n) (fun _ _ i _ => 32 - (intOf i).toNat)
  case atStart => exact ⟨0, Nat.zero_le _, rfl, fun j hj => by omega, 0, rfl⟩
  case round =>
    obtain ⟨k, hk, rfl, hs, n, hn⟩ := hrel
    have HN := hide hn
    have HS := hide hs
    clear hn hs
    by_cases hlt : k < 32
    · have hk0 : (0 : Int) ≤ (k : Int) := by omega
      have hk1 : (k : Int) < (x.size : Int) := by omega
      have hk2 : (k : Int) < (y.size : Int) := by omega
      have e1 := bAt_eq x k (by omega)
      have e2 := bAt_eq y k (by omega)
      have e3 : bits .xor .u8 (bAt x k) (bAt y k) = ((byN x k ^^^ byN y k : Nat) : Int) := u8_xor_nat _ _ (byN_lt x k) (byN_lt y k)
      have hlt8 : byN x k ^^^ byN y k < 256 := Nat.xor_lt_two_pow (n := 8) (byN_lt x k) (byN_lt y k)
      have HFB := hide (fun hd => fd_byte x y k hlt (unhide HS) hd)
      have HX0 : Hid (byN x k ^^^ byN y k = 0 → byN x k = byN y k) := hide (fun h => Nat.eq_of_testBit_eq (fun i => by have q := congrArg (fun z => z.testBit i) h; simp [Nat.testBit_xor] at q; exact q))
      generalize byN x k ^^^ byN y k = d at *
      generalize bAt x k = bx at *
      generalize bAt y k = by' at *
      go_wp2_with fail
      go_quiet (fail)
      have HN2 : Hid (∃ n', wr.drewN nq = w.drewN n') := hide ⟨n + nq, by rw [unhide HN, World.drewN_drewN]⟩
      generalize wr.drewN nq = w2 at *
      by_cases hd : d = 0
      · have HE := hide (unhide HX0 hd)
        subst hd
        go_wp2_with fail
        refine ⟨⟨k + 1, by omega, by go_num, fun j hj => ?_, unhide HN2⟩, ?_⟩
        · rcases Nat.lt_or_ge j k with h | h
          · exact unhide HS j h
          · obtain rfl : j = k := by omega
            exact unhide HE
        · simp [intOf]; omega
      · have H := hide (unhide HFB hd)
        have hd2 : (d : Int) ≠ 0 := by omega
        have l := (bl_bits ⟨d, hlt8⟩ hd)
        have l1 := l.1
        have l2 := l.2.1
        dsimp only at l1 l2
        have HL := hide (lead8_any (d : Int) w2 (by omega) (by omega))
        rw [Int.toNat_natCast] at HL
        clear l HX0 HFB
        generalize Lib.bitLen d = bl at *
        go_wp2_with fail
        refine (unhide HL).mono ?_
        rintro e w9 ⟨rfl, hw9⟩
        subst w9
        go_wp2_with fail
        go_ret
        exact ⟨ret_int (by rw [unhide H]; omega), unhide HN2⟩
    · obtain rfl : k = 32 := by omega
      have H := hide (fd_same x y (unhide HS))
      go_wp2_with fail
      go_ret
      exact ⟨ret_int (by rw [unhide H]; rfl), n, unhide HN⟩
end Go.Proofs.YtnajpeaieeaflaaDoor.Sha
