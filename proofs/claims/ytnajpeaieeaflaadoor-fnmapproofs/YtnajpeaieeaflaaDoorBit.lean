/- The bits of a hash: one of them (impl.hashBit, spec.l07Bit), all of them (spec.l01Bits). -/
import Derived.Test.YtnajpeaieeaflaaDoorBytes
import Derived.WalkSpells
namespace Go.Proofs.YtnajpeaieeaflaaDoor
open Go.ChangeShapes Go.WideShapes Go.ChangeAt Go.RowKit
set_option linter.unusedVariables false

def bitOf (c : Int) (m : Nat) : Int := 48 + c / 2 ^ (7 - m) % 2
def bitL (s : ByteArray) : Nat → List Int
  | 0 => []
  | n + 1 => bitL s n ++ [bitOf (bAt s (n / 8)) (n % 8)]
theorem bitL_len (s : ByteArray) (k : Nat) : (bitL s k).length = k := by
  induction k with
  | zero => rfl
  | succ k ih => simp [bitL, ih]
def bitN (h : ByteArray) (i : Nat) : Int := bAt h (i / 8) / 2 ^ (7 - i % 8) % 2
theorem bitN_01 (h : ByteArray) (i : Nat) : bitN h i = 0 ∨ bitN h i = 1 := by unfold bitN; omega
theorem bitL_succ (h : ByteArray) (n : Nat) : bitL h (n + 1) = bitL h n ++ [48 + bitN h n] := rfl
theorem bitL_same (x y : ByteArray) (n : Nat) : bitL x n = bitL y n ↔ ∀ i, i < n → bitN x i = bitN y i := by
  induction n with
  | zero => simp [bitL]
  | succ n ih =>
    rw [bitL_succ, bitL_succ]
    constructor
    · intro h i hi
      have hl : (bitL x n).length = (bitL y n).length := by rw [bitL_len, bitL_len]
      have h1 := (List.append_inj h hl).1
      have h2 := (List.append_inj h hl).2
      rcases Nat.lt_or_ge i n with h3 | h3
      · exact ih.1 h1 i h3
      · obtain rfl : i = n := by omega
        simp at h2; omega
    · intro h
      rw [ih.2 (fun i hi => h i (by omega)), h n (by omega)]
theorem bits_zero (w : World) (s : ByteArray) : (w.alloc (Obj.cells #[] 5)).ownsRow w.heap.size 5 1 (Value.slice (some { block := w.heap.size, off := 0 }) 0 0) 0 (List.map (Value.int .u8) (bitL s 0)) :=
  World.ownsRow_made w #[] 0 (Nat.le_refl _) (by unfold maxLen; omega) rfl
theorem bits_step {s : ByteArray} {n : Nat} {x : Int} {w wr w1 : World} {o : Obj} {u v' : Value} (hx : bitOf (bAt s (n / 8)) (n % 8) = x)
    (hown : wr.ownsRow w.heap.size 5 1 u n ((bitL s n).map (Value.int .u8))) (hbel : Below w.heap.size w wr)
    (h1 : w1.ownsRow w.heap.size 5 1 v' (n + 1) ((bitL s n).map (Value.int .u8) ++ [.int .u8 x]))
    (hg : (wr.alloc o).grownBy w1 u.ownBlock) :
    w1.ownsRow w.heap.size 5 1 v' (n + 1) ((bitL s (n + 1)).map (Value.int .u8)) ∧ Below w.heap.size w w1 := by
  constructor
  · rw [bitL, hx]; simpa using h1
  · have hz := hbel.size
    refine (hbel.alloc (by omega) o).grown hg (by simp; omega) ?_
    intro r hr
    exact (hown.lt r hr).1

theorem and1 (x : Int) (h0 : 0 ≤ x) (h1 : x < 256) : (48 + bits BinOp.and IntKind.u8 x 1) % 256 = 48 + x % 2 := by
  have h := u8_and x 1 h0 h1 (by omega) (by omega)
  have e : x.toNat &&& (1 : Int).toNat = x.toNat % 2 := Nat.and_one_is_mod _
  rw [e] at h
  rw [h]; omega
theorem shr_lo (c : Int) (h : 0 ≤ c) (n : Nat) : 0 ≤ c / 2 ^ n := Int.ediv_nonneg h (Int.le_of_lt (Int.pow_pos (by omega)))
theorem shr_hi (c : Int) (h : 0 ≤ c) (h1 : c ≤ 255) (n : Nat) : c / 2 ^ n < 256 := by
  have := Int.ediv_le_self (2 ^ n) h
  omega
theorem bit_at (s : ByteArray) (k m : Nat) (h : m < 8) : bitOf (bAt s ((8 * k + m) / 8)) ((8 * k + m) % 8) = (48 + bits BinOp.and IntKind.u8 (bAt s k / 2 ^ (7 - m)) 1) % 256 := by
  have e1 : (8 * k + m) / 8 = k := by omega
  have e2 : (8 * k + m) % 8 = m := by omega
  rw [e1, e2, and1 _ (shr_lo _ (bAt_lo s k) _) (shr_hi _ (bAt_lo s k) (bAt_hi s k) _)]
  rfl
theorem bit_here (s : ByteArray) (k : Nat) : bitOf (bAt s (k / 8)) (k % 8) = (48 + bits BinOp.and IntKind.u8 (bAt s (k / 8) / 2 ^ (7 - k % 8)) 1) % 256 := by
  rw [and1 _ (shr_lo _ (bAt_lo s _) _) (shr_hi _ (bAt_lo s _) (bAt_hi s _) _)]
  rfl
theorem and1i (x : Int) : bits BinOp.and IntKind.i64 x 1 = x % 2 := by
  have h1 : (BitVec.ofInt 64 1).toNat = 2 ^ 1 - 1 := by decide
  have key : (BitVec.ofInt 64 x &&& BitVec.ofInt 64 1).toNat = (x % ((2 ^ 64 : Nat) : Int)).toNat % 2 ^ 1 := by
    rw [BitVec.toNat_and, BitVec.toNat_ofInt, h1, Nat.and_two_pow_sub_one_eq_mod]
  show IntKind.i64.wrap ((BitVec.ofInt 64 x &&& BitVec.ofInt 64 1).toNat : Nat) = x % 2
  rw [key, IntKind.wrap_i64]
  omega
theorem wrap64_in (x : Int) (h0 : 0 ≤ x) (h1 : x < 256) : wrap64 x = x := by unfold wrap64; omega
set_option maxRecDepth 100000 in
theorem hashBit_any (h : ByteArray) (i : Nat) (w : World) (hs : h.size = 32) (hi : i < 256) :
    Calls Tryd.prog 21 #[.string h, .int .i64 i] w fun e w' => e = .returned (.int .i64 (bitN h i)) ∧ w' = w := by
  have hk8 : (0 : Int) ≤ (i : Int) / 8 := by omega
  have hk9 : (i : Int) / 8 < (h.size : Int) := by omega
  have e1 := bAt_eq h (i / 8) (by omega)
  have HV : Hid (bitN h i = bAt h (i / 8) / 2 ^ (7 - i % 8) % 2) := rfl
  go_enter Tryd.func21, Tryd.ntmps21
  go_wp2_with fail
  go_ret
  refine ⟨ret_int ?_, rfl⟩
  rw [unhide HV, and1i, wrap64_in _ (shr_lo _ (bAt_lo h _) _) (shr_hi _ (bAt_lo h _) (bAt_hi h _) _)]
set_option maxRecDepth 100000 in
theorem l07Bit_any (h : ByteArray) (i : Nat) (w : World) (hs : h.size = 32) (hi : i < 256) :
    Calls Tryd.prog 38 #[.string h, .int .i64 i] w fun e w' => e = .returned (.int .i64 (bitN h i)) ∧ w' = w := by
  have hk8 : (0 : Int) ≤ (i : Int) / 8 := by omega
  have hk9 : (i : Int) / 8 < (h.size : Int) := by omega
  have e1 := bAt_eq h (i / 8) (by omega)
  have HV : Hid (bitN h i = bAt h (i / 8) / 2 ^ (7 - i % 8) % 2) := rfl
  go_enter Tryd.func38, Tryd.ntmps38
  go_wp2_with fail
  go_ret
  refine ⟨ret_int ?_, rfl⟩
  rw [unhide HV, and1i, wrap64_in _ (shr_lo _ (bAt_lo h _) _) (shr_hi _ (bAt_lo h _) (bAt_hi h _) _)]
set_option maxRecDepth 100000 in
set_option maxHeartbeats 1000000 in
theorem l01Bits_any (s : ByteArray) (w : World) (hs : s.size ≤ 65536) :
    Calls Tryd.prog 88 #[.string s] w fun e w' => e = .returned (.string (strOfNums (bitL s (8 * s.size)))) ∧ Below w.heap.size w w' := by
  obtain ⟨i0, hi, hz0, hz1, hz2⟩ := info_parts info5
  go_enter Tryd.func88, Tryd.ntmps88
  go_wp2_with fail
  go_loopw [3, 4, 5] (fun v i _ wr => ∃ k : Nat, k ≤ s.size ∧ i = .int .i64 k ∧ wr.ownsRow w.heap.size 5 1 v (8 * k) ((bitL s (8 * k)).map (Value.int .u8)) ∧ Below w.heap.size w wr)
    (fun _ i _ _ => s.size - (intOf i).toNat)
  case atStart => exact ⟨0, Nat.zero_le _, rfl, bits_zero w s, (Below.refl _ _).alloc (Nat.le_refl _) _⟩
  case round =>
    obtain ⟨k, hk, rfl, hown, hbel⟩ := hrel
    by_cases hlt : k < s.size
    · have hk0 : (0 : Int) ≤ (k : Int) := Int.natCast_nonneg _
      have hk1 : (k : Int) < (s.size : Int) := by omega
      go_wp2_with fail
      go_loopw [3, 5] (fun v j wr => ∃ m : Nat, m ≤ 8 ∧ j = .int .i64 (7 - (m : Int)) ∧ wr.ownsRow w.heap.size 5 1 v (8 * k + m) ((bitL s (8 * k + m)).map (Value.int .u8)) ∧ Below w.heap.size w wr)
        (fun _ j _ => (1 + intOf j).toNat)
      case atStart => exact ⟨0, Nat.zero_le _, rfl, hown, hbel⟩
      case round =>
        clear hown hbel
        obtain ⟨m, hm, rfl, hown, hbel⟩ := hrel
        have e1 := bAt_eq s k hlt
        have hc0 := bAt_lo s k
        have hc1 := bAt_hi s k
        by_cases hm8 : m < 8
        · go_wp2_with (at_builtin; refine wpList_append_own _ rfl _ _ 22 rfl w.heap.size 5 i0 (.int .u8 0) 1 1 Tryd.underlying22 hi hz0 hz1 hz2 rfl (by decide) _ _ _ rfl (hown.alloc _) ⟨_, 0, none⟩ 1 1 [_] rfl rfl (World.news_of_block (cs := #[_]) (t := 5) (fr := (0, 0)) (heap_alloc_new _ _)) (by simp [Value.oneCell']) (by unfold maxLen; omega) (by omega) (by have := hbel.size; simp; omega) ?_; intro v' w3 hown1 hgrow hnil)
          have R := hide (bits_step (n := 8 * k + m) (bit_at s k m hm8) hown hbel hown1 hgrow)
          clear hown1 hgrow hown hbel hnil
          refine ⟨⟨m + 1, by omega, by go_num, (unhide R).1, (unhide R).2⟩, ?_⟩
          simp [intOf]; omega
        · obtain rfl : m = 8 := by omega
          clear e1
          go_wp2_with fail
          refine ⟨⟨k + 1, by omega, by go_num, hown, hbel⟩, ?_⟩
          simp [intOf]; omega
    · obtain rfl : k = s.size := by omega
      have hc := conv_own (P := Tryd.prog) 22 9 5 Tryd.underlying22 Tryd.underlying5 Tryd.underlying9 hown
      go_wp2_with fail
      go_ret
      exact ⟨rfl, hbel⟩
end Go.Proofs.YtnajpeaieeaflaaDoor
