/- impl.HashBits, walked. -/
import Derived.Test.YtbpadjocaigpgaaDoorBase
import Derived.WalkSpells
namespace Go.Proofs.YtbpadjocaigpgaaDoor.fnExactHashBits
open Go.ChangeShapes Go.WideShapes Go.ChangeAt Go.RowKit
open Go.ChangeMaps (open_string shut_string)
set_option linter.unusedVariables false

theorem info5 : (Tryd.prog.info? 5).map (fun i => (i.zero, i.size, i.bytes)) = some (some (.int .u8 0), 1, 1) := by kernel_rfl

def bitOf (c : Int) (m : Nat) : Int := 48 + c / 2 ^ (7 - m) % 2
def bitL (s : ByteArray) : Nat → List Int
  | 0 => []
  | n + 1 => bitL s n ++ [bitOf (bAt s (n / 8)) (n % 8)]
theorem bitL_len (s : ByteArray) (k : Nat) : (bitL s k).length = k := by
  induction k with
  | zero => rfl
  | succ k ih => simp [bitL, ih]
theorem bits_zero (w : World) (s : ByteArray) : (w.alloc (Obj.cells #[] 5)).ownsRow w.heap.size 5 1 (Value.slice (some { block := w.heap.size, off := 0 }) 0 0) 0 (List.map (Value.int .u8) (bitL s 0)) :=
  World.ownsRow_made w #[] 0 (Nat.le_refl _) (by unfold maxLen; omega) rfl
theorem bits_step {s : ByteArray} {n : Nat} {x : Int} {w wr w1 : World} {o : Obj} {u v' : Value} (hx : bitOf (bAt s (n / 8)) (n % 8) = x)
    (hown : wr.ownsRow w.heap.size 5 1 u n ((bitL s n).map (Value.int .u8))) (hbel : Below w.heap.size w wr)
    (h1 : w1.ownsRow w.heap.size 5 1 v' (n + 1) ((bitL s n).map (Value.int .u8) ++ [.int .u8 x]))
    (hg : (wr.alloc o).grownBy w1 u.ownBlock) :
    w1.ownsRow w.heap.size 5 1 v' (n + 1) ((bitL s (n + 1)).map (Value.int .u8)) ∧ Below w.heap.size w w1 := by
  constructor
  · rw [bitL, hx]; simpa using h1
  · have hz := hbel.size
    refine (hbel.alloc (by omega) o).grown hg (by simp; omega) ?_
    intro r hr
    exact (hown.lt r hr).1

theorem and1 (x : Int) (h0 : 0 ≤ x) (h1 : x < 256) : (48 + bits BinOp.and IntKind.u8 x 1) % 256 = 48 + x % 2 := by
  have h := u8_and x 1 h0 h1 (by omega) (by omega)
  have e : x.toNat &&& (1 : Int).toNat = x.toNat % 2 := Nat.and_one_is_mod _
  rw [e] at h
  rw [h]; omega
theorem shr_lo (c : Int) (h : 0 ≤ c) (n : Nat) : 0 ≤ c / 2 ^ n := Int.ediv_nonneg h (Int.le_of_lt (Int.pow_pos (by omega)))
theorem shr_hi (c : Int) (h : 0 ≤ c) (h1 : c ≤ 255) (n : Nat) : c / 2 ^ n < 256 := by
  have := Int.ediv_le_self (2 ^ n) h
  omega
theorem bit_at (s : ByteArray) (k m : Nat) (h : m < 8) : bitOf (bAt s ((8 * k + m) / 8)) ((8 * k + m) % 8) = (48 + bits BinOp.and IntKind.u8 (bAt s k / 2 ^ (7 - m)) 1) % 256 := by
  have e1 : (8 * k + m) / 8 = k := by omega
  have e2 : (8 * k + m) % 8 = m := by omega
  rw [e1, e2, and1 _ (shr_lo _ (bAt_lo s k) _) (shr_hi _ (bAt_lo s k) (bAt_hi s k) _)]
  rfl
theorem bit_here (s : ByteArray) (k : Nat) : bitOf (bAt s (k / 8)) (k % 8) = (48 + bits BinOp.and IntKind.u8 (bAt s (k / 8) / 2 ^ (7 - k % 8)) 1) % 256 := by
  rw [and1 _ (shr_lo _ (bAt_lo s _) _) (shr_hi _ (bAt_lo s _) (bAt_hi s _) _)]
  rfl
def faultI (n : Nat) : Int := if 65536 < n then 2 else if n = 32 then 0 else 1
theorem hashFault_any (s : ByteArray) (w : World) (hs : s.size ≤ maxLen) :
    Calls Tryd.prog 19 #[.string s] w fun e w' => e = .returned (.int .i64 (faultI s.size)) ∧ w' = w := by
  unfold maxLen at hs
  by_cases h1 : 65536 < s.size
  · have H := hide (show faultI s.size = 2 by simp [faultI, h1])
    go_enter Tryd.func19, Tryd.ntmps19
    go_wp2
    go_ret
    exact ⟨ret_int (unhide H).symm, rfl⟩
  · by_cases h2 : s.size = 32
    · have H := hide (show faultI s.size = 0 by simp [faultI, h2])
      have h2' : ((s.size : Int) != 32) = false := by simp; omega
      clear h2
      go_enter Tryd.func19, Tryd.ntmps19
      go_wp2
      go_ret
      exact ⟨ret_int (unhide H).symm, rfl⟩
    · have H := hide (show faultI s.size = 1 by simp [faultI, h1, h2])
      have h2' : ((s.size : Int) != 32) = true := by simp; omega
      clear h2
      go_enter Tryd.func19, Tryd.ntmps19
      go_wp2
      go_ret
      exact ⟨ret_int (unhide H).symm, rfl⟩

def textV (s : ByteArray) : Value := if s.size = 32 then .tuple #[.string (strOfNums (bitL s (8 * s.size))), .int .i64 0] else .tuple #[.string ⟨#[]⟩, .int .i64 (faultI s.size)]
theorem textV_32 {s : ByteArray} (h : s.size = 32) : textV s = .tuple #[.string (strOfNums (bitL s (8 * s.size))), .int .i64 0] := by unfold textV; rw [if_pos h]
theorem textV_no {s : ByteArray} (h : s.size ≠ 32) : textV s = .tuple #[.string ⟨#[]⟩, .int .i64 (faultI s.size)] := by unfold textV; rw [if_neg h]
theorem ret_eq {a b : Value} (h : a = b) : Ending.returned a = .returned b := by rw [h]

set_option maxRecDepth 100000 in
set_option maxHeartbeats 1000000 in
theorem implBits_any (s : ByteArray) (w : World) (hs : s.size ≤ maxLen) :
    Calls Tryd.prog 10 #[.string s] w fun e w' => e = .returned (textV s) ∧ Below w.heap.size w w' := by
  have hs' := hide hs
  unfold maxLen at hs
  by_cases h2 : s.size = 32
  · have H := hide ((textV_32 h2).trans (by rw [h2]))
    have H0 := hide (show faultI s.size = 0 by simp [faultI, h2])
    have hle : s.size ≤ 32 := by omega
    have hge : 32 ≤ s.size := by omega
    obtain ⟨i0, hi, hz0, hz1, hz2⟩ := info_parts info5
    clear h2
    go_enter Tryd.func10, Tryd.ntmps10
    go_wp2_with fail
    refine (hashFault_any s _ (unhide hs')).mono ?_
    rintro e w' ⟨rfl, rfl⟩
    rw [unhide H0]
    go_wp2_with (at_make; refine wpList_make_own _ rfl _ _ 22 rfl w'.heap.size 5 i0 _ 1 Tryd.underlying22 hi hz0 hz1 .i64 .i64 256 256 rfl rfl rfl (by rw [hz2]; omega) (by unfold maxLen; omega) (Nat.le_refl _) ?_; intro w1 hown1 hg1)
    go_loopw [5, 6, 13] (fun v _ i wr => ∃ k : Nat, k ≤ 256 ∧ i = .int .i64 k ∧ wr.ownsRow w'.heap.size 5 1 v k ((bitL s k).map (Value.int .u8)) ∧ Below w'.heap.size w' wr)
      (fun _ _ i _ => 256 - (intOf i).toNat)
    case atStart => exact ⟨0, Nat.zero_le _, rfl, hown1, (Below.refl _ _).grown hg1 (Nat.le_refl _) (fun k h => by cases h)⟩
    case round =>
      clear hown1 hg1
      obtain ⟨k, hk, rfl, hown, hbel⟩ := hrel
      by_cases hlt : k < 256
      · have hk8 : (0 : Int) ≤ (k : Int) / 8 := by omega
        have hk9 : (k : Int) / 8 < (s.size : Int) := by omega
        have e1 := bAt_eq s (k / 8) (by omega)
        go_wp2_with (at_builtin; refine wpList_append_own _ rfl _ _ 22 rfl w'.heap.size 5 i0 (.int .u8 0) 1 1 Tryd.underlying22 hi hz0 hz1 hz2 rfl (by decide) _ _ _ rfl (hown.alloc _) ⟨_, 0, none⟩ 1 1 [_] rfl rfl (World.news_of_block (cs := #[_]) (t := 5) (fr := (0, 0)) (heap_alloc_new _ _)) (by simp [Value.oneCell']) (by unfold maxLen; omega) (by omega) (by have := hbel.size; simp; omega) ?_; intro v' w3 hown1 hgrow hnil)
        have R := hide (bits_step (n := k) (bit_here s k) hown hbel hown1 hgrow)
        clear hown1 hgrow hown hbel hnil
        refine ⟨⟨k + 1, by omega, by go_num, (unhide R).1, (unhide R).2⟩, ?_⟩
        simp [intOf]; omega
      · obtain rfl : k = 256 := by omega
        have hc := conv_own (P := Tryd.prog) 22 9 5 Tryd.underlying22 Tryd.underlying5 Tryd.underlying9 hown
        go_wp2_with fail
        go_ret2
        exact ⟨ret_eq (unhide H).symm, hbel⟩
  · have H := hide (textV_no h2)
    have hf : faultI s.size = 1 ∨ faultI s.size = 2 := by unfold faultI; rw [if_neg h2]; split <;> simp
    have hf' : (faultI s.size != 0) = true := by rcases hf with h | h <;> rw [h] <;> rfl
    clear h2 hf
    go_enter Tryd.func10, Tryd.ntmps10
    go_wp2_with fail
    refine (hashFault_any s _ (unhide hs')).mono ?_
    rintro e w' ⟨rfl, rfl⟩
    have H2 := hide hf'
    generalize faultI s.size = fi at *
    go_wp2_with fail
    go_ret2
    exact ⟨ret_eq (unhide H).symm, Below.refl _ _⟩
end Go.Proofs.YtbpadjocaigpgaaDoor.fnExactHashBits
