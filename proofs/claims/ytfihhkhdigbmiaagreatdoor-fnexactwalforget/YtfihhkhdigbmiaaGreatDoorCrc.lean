/- impl.Check32, spec.l01Check, walked. -/
import Derived.Test.YtfihhkhdigbmiaaGreatDoorBytes
namespace Go.Proofs.YtfihhkhdigbmiaaGreatDoor.fnExactCheck32
open Go.ChangeShapes Go.WideShapes Go.ChangeAt Go.RowKit
set_option linter.unusedVariables false

def halve (n : Nat) : Nat := if n % 2 = 1 then n / 2 ^^^ 3988292384 else n / 2
def halves : Nat → Nat → Nat
  | 0, n => n
  | m + 1, n => halve (halves m n)
def crc (l : List Int) : Nat → Nat
  | 0 => 4294967295
  | k + 1 => halves 8 (crc l k ^^^ (l.getD k 0).toNat)
theorem halve_lt {n : Nat} (h : n < 4294967296) : halve n < 4294967296 := by
  unfold halve; split
  · exact Nat.xor_lt_two_pow (n := 32) (by omega) (by omega)
  · omega
theorem halves_lt {n : Nat} (h : n < 4294967296) (m : Nat) : halves m n < 4294967296 := by
  induction m with
  | zero => exact h
  | succ m ih => exact halve_lt ih
theorem xor_lt {a : Nat} {c : Int} (h : a < 4294967296) (h0 : 0 ≤ c) (h1 : c ≤ 255) : a ^^^ c.toNat < 4294967296 :=
  Nat.xor_lt_two_pow (n := 32) (by omega) (by omega)
theorem crc_lt (l : List Int) (hr : ∀ i, 0 ≤ l.getD i 0 ∧ l.getD i 0 ≤ 255) (k : Nat) : crc l k < 4294967296 := by
  induction k with
  | zero => unfold crc; omega
  | succ k ih => exact halves_lt (xor_lt ih (hr k).1 (hr k).2) 8
theorem halve_odd {n : Nat} (h : n % 2 = 1) : halve n = n / 2 ^^^ 3988292384 := by unfold halve; rw [if_pos h]
theorem halve_even {n : Nat} (h : ¬ n % 2 = 1) : halve n = n / 2 := by unfold halve; rw [if_neg h]

theorem i64_xor (a b : Nat) (ha : a < 4294967296) (hb : b < 4294967296) : bits BinOp.xor IntKind.i64 (a : Int) (b : Int) = ((a ^^^ b : Nat) : Int) := by
  have h : a ^^^ b < 4294967296 := Nat.xor_lt_two_pow (n := 32) ha hb
  have e : ∀ n : Nat, n < 4294967296 → (BitVec.ofInt 64 (n : Int)).toNat = n := fun n hn => by
    rw [BitVec.ofInt_natCast, BitVec.toNat_ofNat]; omega
  show IntKind.i64.wrap ((BitVec.ofInt 64 (a : Int) ^^^ BitVec.ofInt 64 (b : Int)).toNat : Int) = _
  rw [BitVec.toNat_xor, e a ha, e b hb]
  generalize a ^^^ b = n at *
  simp only [IntKind.wrap, IntKind.bits, IntKind.signed]
  simp; omega

theorem xor_turn32 (n : Nat) (h : n < 4294967296) : bits BinOp.xor IntKind.u32 ((n : Int) / 2) 3988292384 = ((n / 2 ^^^ 3988292384 : Nat) : Int) := by
  have := u32_xor_nat (n / 2) 3988292384 (by omega) (by omega)
  rw [← this, Int.natCast_ediv]; rfl
theorem xor_turn64 (n : Nat) (h : n < 4294967296) : bits BinOp.xor IntKind.i64 ((n : Int) / 2) 3988292384 = ((n / 2 ^^^ 3988292384 : Nat) : Int) := by
  have := i64_xor (n / 2) 3988292384 (by omega) (by omega)
  rw [← this, Int.natCast_ediv]; rfl
theorem xor_byte32 (n : Nat) (c : Int) (h : n < 4294967296) (h0 : 0 ≤ c) (h1 : c ≤ 255) : bits BinOp.xor IntKind.u32 (n : Int) c = ((n ^^^ c.toNat : Nat) : Int) := by
  have := u32_xor_nat n c.toNat h (by omega)
  rw [← this, Int.toNat_of_nonneg h0]
theorem xor_byte64 (n : Nat) (c : Int) (h : n < 4294967296) (h0 : 0 ≤ c) (h1 : c ≤ 255) : bits BinOp.xor IntKind.i64 (n : Int) c = ((n ^^^ c.toNat : Nat) : Int) := by
  have := i64_xor n c.toNat h (by omega)
  rw [← this, Int.toNat_of_nonneg h0]
theorem not32 (n : Nat) (h : n < 4294967296) : bits BinOp.xor IntKind.u32 IntKind.u32.max (n : Int) = ((n ^^^ 4294967295 : Nat) : Int) := by
  have := u32_xor_nat 4294967295 n (by omega) h
  rw [Nat.xor_comm] at this
  exact this
theorem wrap_nat (n : Nat) (h : n < 4294967296) : wrap64 (n : Int) = n := by
  unfold wrap64; omega
theorem halve_any (n : Nat) (w : World) (h : n < 4294967296) :
    Calls Tryz.prog 95 #[.int .u32 n] w fun e w' => e = .returned (.int .u32 (halve n)) ∧ w' = w := by
  have hx := hide (xor_turn32 n h)
  have ha : bits BinOp.and IntKind.u32 (n : Int) 1 = ((n % 2 : Nat) : Int) := by
    have := u32_and_nat n 1 h (by omega)
    rw [Nat.and_one_is_mod] at this
    exact this
  by_cases ho : n % 2 = 1
  · have H := hide (halve_odd ho)
    have hb : (((n % 2 : Nat) : Int) == 1) = true := by rw [ho]; rfl
    clear ho
    go_enter Tryz.func95, Tryz.ntmps95
    go_wp2
    go_ret
    exact ⟨ret_int (by rw [unhide H]; exact unhide hx), rfl⟩
  · have H := hide (halve_even ho)
    have hb : (((n % 2 : Nat) : Int) == 1) = false := by simp; omega
    clear ho
    go_enter Tryz.func95, Tryz.ntmps95
    go_wp2
    go_ret
    exact ⟨ret_int (by rw [unhide H, Int.natCast_ediv]; rfl), rfl⟩

def crcV (l : List Int) : Int := if 65536 < l.length then 0 else ((crc l l.length ^^^ 4294967295 : Nat) : Int)

set_option maxRecDepth 100000 in
set_option maxHeartbeats 1000000 in
theorem l01Check_any (v : Value) (l : List Int) (w : World) (h : Bytes w v l) (hs : l.length ≤ 65536) :
    Calls Tryz.prog 87 #[v] w fun e w' => e = .returned (.int .i64 ((crc l l.length ^^^ 4294967295 : Nat) : Int)) ∧ w' = w := by
  obtain ⟨a, cap, rfl, hm, hc, hr⟩ := h
  have HC := hide hc
  have HR := hide hr
  clear hc hr hm
  go_enter Tryz.func87, Tryz.ntmps87
  go_wp2_with fail
  go_loop [3, 4, 5] (fun n i _ => ∃ k : Nat, k ≤ l.length ∧ i = .int .i64 k ∧ n = .int .i64 (crc l k)) (fun _ i _ => l.length - (intOf i).toNat)
  case atStart => exact ⟨0, Nat.zero_le _, rfl, rfl⟩
  case round =>
    obtain ⟨k, hk, rfl, rfl⟩ := hrel
    have hcl := crc_lt l (unhide HR) k
    by_cases hlt : k < l.length
    · obtain ⟨b, off, rfl, hbl, hsrc⟩ : ∃ b off, a = some ⟨b, off, none⟩ ∧ b < w.heap.size ∧ ∀ i, i < l.length → w.cell? ⟨b, off + i, none⟩ = some (.int .u8 (l.getD i 0)) := by
        rcases unhide HC with h0 | h1
        · omega
        · exact h1
      have hs1 : w.cell? ⟨b, off + k, none⟩ = some (.int .u8 (l.getD k 0)) := hsrc k hlt
      have hk0 : (0 : Int) ≤ (k : Int) := by omega
      have hk1 : (k : Int) < (l.length : Int) := by omega
      have hx0 := (unhide HR k).1
      have hx1 := (unhide HR k).2
      have hxor := xor_byte64 (crc l k) (l.getD k 0) hcl hx0 hx1
      have hxl := xor_lt hcl hx0 hx1
      have HS : Hid (crc l (k + 1) = halves 8 (crc l k ^^^ (l.getD k 0).toNat)) := rfl
      clear hsrc
      generalize l.getD k 0 = x at *
      generalize crc l k ^^^ x.toNat = r0 at *
      go_wp2_with fail
      go_loop [3, 5] (fun n j => ∃ m : Nat, m ≤ 8 ∧ j = .int .i64 m ∧ n = .int .i64 (halves m r0)) (fun _ j => 8 - (intOf j).toNat)
      case atStart => exact ⟨0, Nat.zero_le _, rfl, rfl⟩
      case round =>
        clear hxor
        obtain ⟨m, hm, rfl, rfl⟩ := hrel
        have hrl := halves_lt hxl m
        by_cases hm8 : m < 8
        · have HT : Hid (halves (m + 1) r0 = halve (halves m r0)) := rfl
          generalize halves m r0 = r at *
          have hxt := xor_turn64 r hrl
          by_cases ho : r % 2 = 1
          · have H := hide ((unhide HT).trans (halve_odd ho))
            have hb : ((r : Int) % 2 == 1) = true := by simp; omega
            clear ho
            generalize r / 2 ^^^ 3988292384 = r2 at *
            go_wp2_with fail
            go_round
            case rel => exact ⟨m + 1, by omega, by go_num, by rw [unhide H]⟩
            case measure => simp [intOf]; omega
          · have H := hide ((unhide HT).trans (halve_even ho))
            have hb : ((r : Int) % 2 == 1) = false := by simp; omega
            clear ho hxt
            go_wp2_with fail
            go_round
            case rel => exact ⟨m + 1, by omega, by go_num, by rw [unhide H, Int.natCast_ediv]; rfl⟩
            case measure => simp [intOf]; omega
        · obtain rfl : m = 8 := by omega
          have HT : Hid (crc l (k + 1) = halves 8 r0) := HS
          generalize halves 8 r0 = r at *
          go_wp2_with fail
          go_round
          case rel => exact ⟨k + 1, by omega, by go_num, by rw [unhide HT]⟩
          case measure => simp [intOf]; omega
    · obtain rfl : k = l.length := by omega
      have hx := i64_xor (crc l l.length) 4294967295 hcl (by omega)
      have HX := hide hx
      clear hx
      go_wp2_with fail
      go_ret
      exact ⟨ret_int (unhide HX), rfl⟩

set_option maxRecDepth 100000 in
set_option maxHeartbeats 1000000 in
theorem implCheck_any (v : Value) (l : List Int) (w : World) (h : Bytes w v l) :
    Calls Tryz.prog 91 #[v] w fun e w' => e = .returned (.int .i64 (crcV l)) ∧ w' = w := by
  obtain ⟨a, cap, rfl, hm, hc, hr⟩ := h
  have HC := hide hc
  have HR := hide hr
  clear hc hr
  unfold maxLen at hm
  by_cases hs : 65536 < l.length
  · have H := hide (show crcV l = 0 by unfold crcV; rw [if_pos hs])
    go_enter Tryz.func91, Tryz.ntmps91
    go_wp2_with fail
    go_ret
    exact ⟨ret_int (unhide H).symm, rfl⟩
  · have H := hide (show crcV l = _ by unfold crcV; rw [if_neg hs])
    go_enter Tryz.func91, Tryz.ntmps91
    go_wp2_with fail
    go_loop [3, 5, 11] (fun n _ i => ∃ k : Nat, k ≤ l.length ∧ i = .int .i64 k ∧ n = .int .u32 (crc l k)) (fun _ _ i => l.length - (intOf i).toNat)
    case atStart => exact ⟨0, Nat.zero_le _, rfl, rfl⟩
    case round =>
      obtain ⟨k, hk, rfl, rfl⟩ := hrel
      have hcl := crc_lt l (unhide HR) k
      by_cases hlt : k < l.length
      · obtain ⟨b, off, rfl, hbl, hsrc⟩ : ∃ b off, a = some ⟨b, off, none⟩ ∧ b < w.heap.size ∧ ∀ i, i < l.length → w.cell? ⟨b, off + i, none⟩ = some (.int .u8 (l.getD i 0)) := by
          rcases unhide HC with h0 | h1
          · omega
          · exact h1
        have hs1 : w.cell? ⟨b, off + k, none⟩ = some (.int .u8 (l.getD k 0)) := hsrc k hlt
        have hk0 : (0 : Int) ≤ (k : Int) := by omega
        have hk1 : (k : Int) < (l.length : Int) := by omega
        have hx0 := (unhide HR k).1
        have hx1 := (unhide HR k).2
        have hxor := xor_byte32 (crc l k) (l.getD k 0) hcl hx0 hx1
        have hxl := xor_lt hcl hx0 hx1
        have HS : Hid (crc l (k + 1) = halves 8 (crc l k ^^^ (l.getD k 0).toNat)) := rfl
        clear hsrc
        generalize l.getD k 0 = x at *
        generalize crc l k ^^^ x.toNat = r0 at *
        go_wp2_with fail
        go_loop [3, 19] (fun n j => ∃ m : Nat, m ≤ 8 ∧ j = .int .i64 m ∧ n = .int .u32 (halves m r0)) (fun _ j => 8 - (intOf j).toNat)
        case atStart => exact ⟨0, Nat.zero_le _, rfl, rfl⟩
        case round =>
          clear hxor
          obtain ⟨m, hm8, rfl, rfl⟩ := hrel
          have hrl := halves_lt hxl m
          by_cases hm8 : m < 8
          · have HT : Hid (halves (m + 1) r0 = halve (halves m r0)) := rfl
            generalize halves m r0 = r at *
            go_wp2_with fail
            refine (halve_any r _ hrl).mono ?_
            rintro e w' ⟨rfl, rfl⟩
            go_wp2_with fail
            go_round
            case rel => exact ⟨m + 1, by omega, by go_num, by rw [unhide HT]⟩
            case measure => simp [intOf]; omega
          · obtain rfl : m = 8 := by omega
            have HT : Hid (crc l (k + 1) = halves 8 r0) := HS
            generalize halves 8 r0 = r at *
            go_wp2_with fail
            go_round
            case rel => exact ⟨k + 1, by omega, by go_num, by rw [unhide HT]⟩
            case measure => simp [intOf]; omega
      · obtain rfl : k = l.length := by omega
        have hlt2 : crc l l.length ^^^ 4294967295 < 4294967296 := Nat.xor_lt_two_pow (n := 32) hcl (by omega)
        have hnot := not32 (crc l l.length) hcl
        clear hcl
        generalize crc l l.length ^^^ 4294967295 = r at *
        go_wp2_with fail
        go_ret
        exact ⟨ret_int ((wrap_nat r hlt2).trans (unhide H).symm), rfl⟩
end Go.Proofs.YtfihhkhdigbmiaaGreatDoor.fnExactCheck32
