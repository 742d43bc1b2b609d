/- The bits of a hash: one of them (impl.hashBit, spec.l07Bit), all of them (spec.l01Bits). -/
import Derived.Test.YteblcmgblbdcnaaDoorBytes
import Derived.WalkSpells
namespace Go.Proofs.YteblcmgblbdcnaaDoor
open Go.ChangeShapes Go.WideShapes Go.ChangeAt Go.RowKit
set_option linter.unusedVariables false

def bitOf (c : Int) (m : Nat) : Int := 48 + c / 2 ^ (7 - m) % 2
def bitL (s : ByteArray) : Nat → List Int
  | 0 => []
  | n + 1 => bitL s n ++ [bitOf (bAt s (n / 8)) (n % 8)]
theorem bitL_len (s : ByteArray) (k : Nat) : (bitL s k).length = k := by
  induction k with
  | zero => rfl
  | succ k ih => simp [bitL, ih]
def bitN (h : ByteArray) (i : Nat) : Int := bAt h (i / 8) / 2 ^ (7 - i % 8) % 2
theorem bitN_01 (h : ByteArray) (i : Nat) : bitN h i = 0 ∨ bitN h i = 1 := by unfold bitN; omega
theorem bitL_succ (h : ByteArray) (n : Nat) : bitL h (n + 1) = bitL h n ++ [48 + bitN h n] := rfl
theorem bitL_same (x y : ByteArray) (n : Nat) : bitL x n = bitL y n ↔ ∀ i, i < n → bitN x i = bitN y i := by
  induction n with
  | zero => simp [bitL]
  | succ n ih =>
    rw [bitL_succ, bitL_succ]
    constructor
    · intro h i hi
      have hl : (bitL x n).length = (bitL y n).length := by rw [bitL_len, bitL_len]
      have h1 := (List.append_inj h hl).1
      have h2 := (List.append_inj h hl).2
      rcases Nat.lt_or_ge i n with h3 | h3
      · exact ih.1 h1 i h3
      · obtain rfl : i = n := by omega
        simp at h2; omega
    · intro h
      rw [ih.2 (fun i hi => h i (by omega)), h n (by omega)]
theorem bits_zero (w : World) (s : ByteArray) : (w.alloc (Obj.cells #[] 5)).ownsRow w.heap.size 5 1 (Value.slice (some { block := w.heap.size, off := 0 }) 0 0) 0 (List.map (Value.int .u8) (bitL s 0)) :=
  World.ownsRow_made w #[] 0 (Nat.le_refl _) (by unfold maxLen; omega) rfl
theorem bits_step {s : ByteArray} {n : Nat} {x : Int} {w wr w1 : World} {o : Obj} {u v' : Value} (hx : bitOf (bAt s (n / 8)) (n % 8) = x)
    (hown : wr.ownsRow w.heap.size 5 1 u n ((bitL s n).map (Value.int .u8))) (hbel : Below w.heap.size w wr)
    (h1 : w1.ownsRow w.heap.size 5 1 v' (n + 1) ((bitL s n).map (Value.int .u8) ++ [.int .u8 x]))
    (hg : (wr.alloc o).grownBy w1 u.ownBlock) :
    w1.ownsRow w.heap.size 5 1 v' (n + 1) ((bitL s (n + 1)).map (Value.int .u8)) ∧ Below w.heap.size w w1 := by
  constructor
  · rw [bitL, hx]; simpa using h1
  · have hz := hbel.size
    refine (hbel.alloc (by omega) o).grown hg (by simp; omega) ?_
    intro r hr
    exact (hown.lt r hr).1

theorem and1 (x : Int) (h0 : 0 ≤ x) (h1 : x < 256) : (48 + bits BinOp.and IntKind.u8 x 1) % 256 = 48 + x % 2 := by
  have h := u8_and x 1 h0 h1 (by omega) (by omega)
  have e : x.toNat &&& (1 : Int).toNat = x.toNat % 2 := Nat.and_one_is_mod _
  rw [e] at h
  rw [h]; omega
theorem shr_lo (c : Int) (h : 0 ≤ c) (n : Nat) : 0 ≤ c / 2 ^ n := Int.ediv_nonneg h (Int.le_of_lt (Int.pow_pos (by omega)))
theorem shr_hi (c : Int) (h : 0 ≤ c) (h1 : c ≤ 255) (n : Nat) : c / 2 ^ n < 256 := by
  have := Int.ediv_le_self (2 ^ n) h
  omega
theorem bit_at (s : ByteArray) (k m : Nat) (h : m < 8) : bitOf (bAt s ((8 * k + m) / 8)) ((8 * k + m) % 8) = (48 + bits BinOp.and IntKind.u8 (bAt s k / 2 ^ (7 - m)) 1) % 256 := by
  have e1 : (8 * k + m) / 8 = k := by omega
  have e2 : (8 * k + m) % 8 = m := by omega
  rw [e1, e2, and1 _ (shr_lo _ (bAt_lo s k) _) (shr_hi _ (bAt_lo s k) (bAt_hi s k) _)]
  rfl
theorem bit_here (s : ByteArray) (k : Nat) : bitOf (bAt s (k / 8)) (k % 8) = (48 + bits BinOp.and IntKind.u8 (bAt s (k / 8) / 2 ^ (7 - k % 8)) 1) % 256 := by
  rw [and1 _ (shr_lo _ (bAt_lo s _) _) (shr_hi _ (bAt_lo s _) (bAt_hi s _) _)]
  rfl
theorem and1i (x : Int) : bits BinOp.and IntKind.i64 x 1 = x % 2 := by
  have h1 : (BitVec.ofInt 64 1).toNat = 2 ^ 1 - 1 := by decide
  have key : (BitVec.ofInt 64 x &&& BitVec.ofInt 64 1).toNat = (x % ((2 ^ 64 : Nat) : Int)).toNat % 2 ^ 1 := by
    rw [BitVec.toNat_and, BitVec.toNat_ofInt, h1, Nat.and_two_pow_sub_one_eq_mod]
  show IntKind.i64.wrap ((BitVec.ofInt 64 x &&& BitVec.ofInt 64 1).toNat : Nat) = x % 2
  rw [key, IntKind.wrap_i64]
  omega
theorem wrap64_in (x : Int) (h0 : 0 ≤ x) (h1 : x < 256) : wrap64 x = x := by unfold wrap64; omega
set_option maxRecDepth 100000 in
theorem hashBit_any (h : ByteArray) (i : Nat) (w : World) (hs : h.size = 32) (hi : i < 256) :
    Calls Tryd.prog 23 #[.string h, .int .i64 i] w fun e w' => e = .returned (.int .i64 (bitN h i)) ∧ w' = w := by
  have hk8 : (0 : Int) ≤ (i : Int) / 8 := by omega
  have hk9 : (i : Int) / 8 < (h.size : Int) := by omega
  have e1 := bAt_eq h (i / 8) (by omega)
  have HV : Hid (bitN h i = bAt h (i / 8) / 2 ^ (7 - i % 8) % 2) := rfl
  go_enter Tryd.func23, Tryd.ntmps23
  go_wp2_with fail
  go_ret
  refine ⟨ret_int ?_, rfl⟩
  rw [unhide HV, and1i, wrap64_in _ (shr_lo _ (bAt_lo h _) _) (shr_hi _ (bAt_lo h _) (bAt_hi h _) _)]
end Go.Proofs.YteblcmgblbdcnaaDoor
