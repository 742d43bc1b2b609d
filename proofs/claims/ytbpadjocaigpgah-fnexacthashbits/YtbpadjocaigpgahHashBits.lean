/- For every text that can be read, laws.FnExactHashBits returns true and the text reads as it did. No condition. -/
import Derived.Test.YtbpadjocaigpgahBase
import Derived.WalkSpells
namespace Go.Proofs.Ytbpadjocaigpgah.fnExactHashBits
open Go.ChangeShapes Go.WideShapes Go.ChangeAt Go.RowKit
open Go.ChangeMaps (open_string shut_string)
set_option linter.unusedVariables false

theorem info5 : (Try.prog.info? 5).map (fun i => (i.zero, i.size, i.bytes)) = some (some (.int .u8 0), 1, 1) := by kernel_rfl

def bitOf (c : Int) (m : Nat) : Int := 48 + c / 2 ^ (7 - m) % 2
def bitL (s : ByteArray) : Nat → List Int
  | 0 => []
  | n + 1 => bitL s n ++ [bitOf (bAt s (n / 8)) (n % 8)]
theorem bitL_len (s : ByteArray) (k : Nat) : (bitL s k).length = k := by
  induction k with
  | zero => rfl
  | succ k ih => simp [bitL, ih]
theorem bits_zero (w : World) (s : ByteArray) : (w.alloc (Obj.cells #[] 5)).ownsRow w.heap.size 5 1 (Value.slice (some { block := w.heap.size, off := 0 }) 0 0) 0 (List.map (Value.int .u8) (bitL s 0)) :=
  World.ownsRow_made w #[] 0 (Nat.le_refl _) (by unfold maxLen; omega) rfl
theorem bits_step {s : ByteArray} {n : Nat} {x : Int} {w wr w1 : World} {o : Obj} {u v' : Value} (hx : bitOf (bAt s (n / 8)) (n % 8) = x)
    (hown : wr.ownsRow w.heap.size 5 1 u n ((bitL s n).map (Value.int .u8))) (hbel : Below w.heap.size w wr)
    (h1 : w1.ownsRow w.heap.size 5 1 v' (n + 1) ((bitL s n).map (Value.int .u8) ++ [.int .u8 x]))
    (hg : (wr.alloc o).grownBy w1 u.ownBlock) :
    w1.ownsRow w.heap.size 5 1 v' (n + 1) ((bitL s (n + 1)).map (Value.int .u8)) ∧ Below w.heap.size w w1 := by
  constructor
  · rw [bitL, hx]; simpa using h1
  · have hz := hbel.size
    refine (hbel.alloc (by omega) o).grown hg (by simp; omega) ?_
    intro r hr
    exact (hown.lt r hr).1

theorem and1 (x : Int) (h0 : 0 ≤ x) (h1 : x < 256) : (48 + bits BinOp.and IntKind.u8 x 1) % 256 = 48 + x % 2 := by
  have h := u8_and x 1 h0 h1 (by omega) (by omega)
  have e : x.toNat &&& (1 : Int).toNat = x.toNat % 2 := Nat.and_one_is_mod _
  rw [e] at h
  rw [h]; omega
theorem shr_lo (c : Int) (h : 0 ≤ c) (n : Nat) : 0 ≤ c / 2 ^ n := Int.ediv_nonneg h (Int.le_of_lt (Int.pow_pos (by omega)))
theorem shr_hi (c : Int) (h : 0 ≤ c) (h1 : c ≤ 255) (n : Nat) : c / 2 ^ n < 256 := by
  have := Int.ediv_le_self (2 ^ n) h
  omega
theorem bit_at (s : ByteArray) (k m : Nat) (h : m < 8) : bitOf (bAt s ((8 * k + m) / 8)) ((8 * k + m) % 8) = (48 + bits BinOp.and IntKind.u8 (bAt s k / 2 ^ (7 - m)) 1) % 256 := by
  have e1 : (8 * k + m) / 8 = k := by omega
  have e2 : (8 * k + m) % 8 = m := by omega
  rw [e1, e2, and1 _ (shr_lo _ (bAt_lo s k) _) (shr_hi _ (bAt_lo s k) (bAt_hi s k) _)]
  rfl
theorem bit_here (s : ByteArray) (k : Nat) : bitOf (bAt s (k / 8)) (k % 8) = (48 + bits BinOp.and IntKind.u8 (bAt s (k / 8) / 2 ^ (7 - k % 8)) 1) % 256 := by
  rw [and1 _ (shr_lo _ (bAt_lo s _) _) (shr_hi _ (bAt_lo s _) (bAt_hi s _) _)]
  rfl
set_option maxRecDepth 100000 in
set_option maxHeartbeats 1000000 in
theorem l01Bits_any (s : ByteArray) (w : World) (hs : s.size ≤ 65536) :
    Calls Try.prog 13 #[.string s] w fun e w' => e = .returned (.string (strOfNums (bitL s (8 * s.size)))) ∧ Below w.heap.size w w' := by
  obtain ⟨i0, hi, hz0, hz1, hz2⟩ := info_parts info5
  go_enter Try.func13, Try.ntmps13
  go_wp2_with fail
  go_loopw [3, 4, 5] (fun v i _ wr => ∃ k : Nat, k ≤ s.size ∧ i = .int .i64 k ∧ wr.ownsRow w.heap.size 5 1 v (8 * k) ((bitL s (8 * k)).map (Value.int .u8)) ∧ Below w.heap.size w wr)
    (fun _ i _ _ => s.size - (intOf i).toNat)
  case atStart => exact ⟨0, Nat.zero_le _, rfl, bits_zero w s, (Below.refl _ _).alloc (Nat.le_refl _) _⟩
  case round =>
    obtain ⟨k, hk, rfl, hown, hbel⟩ := hrel
    by_cases hlt : k < s.size
    · have hk0 : (0 : Int) ≤ (k : Int) := Int.natCast_nonneg _
      have hk1 : (k : Int) < (s.size : Int) := by omega
      go_wp2_with fail
      go_loopw [3, 5] (fun v j wr => ∃ m : Nat, m ≤ 8 ∧ j = .int .i64 (7 - (m : Int)) ∧ wr.ownsRow w.heap.size 5 1 v (8 * k + m) ((bitL s (8 * k + m)).map (Value.int .u8)) ∧ Below w.heap.size w wr)
        (fun _ j _ => (1 + intOf j).toNat)
      case atStart => exact ⟨0, Nat.zero_le _, rfl, hown, hbel⟩
      case round =>
        clear hown hbel
        obtain ⟨m, hm, rfl, hown, hbel⟩ := hrel
        have e1 := bAt_eq s k hlt
        have hc0 := bAt_lo s k
        have hc1 := bAt_hi s k
        by_cases hm8 : m < 8
        · go_wp2_with (at_builtin; refine wpList_append_own _ rfl _ _ 22 rfl w.heap.size 5 i0 (.int .u8 0) 1 1 Try.underlying22 hi hz0 hz1 hz2 rfl (by decide) _ _ _ rfl (hown.alloc _) ⟨_, 0, none⟩ 1 1 [_] rfl rfl (World.news_of_block (cs := #[_]) (t := 5) (fr := (0, 0)) (heap_alloc_new _ _)) (by simp [Value.oneCell']) (by unfold maxLen; omega) (by omega) (by have := hbel.size; simp; omega) ?_; intro v' w3 hown1 hgrow hnil)
          have R := hide (bits_step (n := 8 * k + m) (bit_at s k m hm8) hown hbel hown1 hgrow)
          clear hown1 hgrow hown hbel hnil
          refine ⟨⟨m + 1, by omega, by go_num, (unhide R).1, (unhide R).2⟩, ?_⟩
          simp [intOf]; omega
        · obtain rfl : m = 8 := by omega
          clear e1
          go_wp2_with fail
          refine ⟨⟨k + 1, by omega, by go_num, hown, hbel⟩, ?_⟩
          simp [intOf]; omega
    · obtain rfl : k = s.size := by omega
      have hc := conv_own (P := Try.prog) 22 9 5 Try.underlying22 Try.underlying5 Try.underlying9 hown
      go_wp2_with fail
      go_ret
      exact ⟨rfl, hbel⟩
def faultI (n : Nat) : Int := if 65536 < n then 2 else if n = 32 then 0 else 1
theorem hashFault_any (s : ByteArray) (w : World) (hs : s.size ≤ maxLen) :
    Calls Try.prog 14 #[.string s] w fun e w' => e = .returned (.int .i64 (faultI s.size)) ∧ w' = w := by
  unfold maxLen at hs
  by_cases h1 : 65536 < s.size
  · have H := hide (show faultI s.size = 2 by simp [faultI, h1])
    go_enter Try.func14, Try.ntmps14
    go_wp2
    go_ret
    exact ⟨ret_int (unhide H).symm, rfl⟩
  · by_cases h2 : s.size = 32
    · have H := hide (show faultI s.size = 0 by simp [faultI, h2])
      have h2' : ((s.size : Int) != 32) = false := by simp; omega
      clear h2
      go_enter Try.func14, Try.ntmps14
      go_wp2
      go_ret
      exact ⟨ret_int (unhide H).symm, rfl⟩
    · have H := hide (show faultI s.size = 1 by simp [faultI, h1, h2])
      have h2' : ((s.size : Int) != 32) = true := by simp; omega
      clear h2
      go_enter Try.func14, Try.ntmps14
      go_wp2
      go_ret
      exact ⟨ret_int (unhide H).symm, rfl⟩

def textV (s : ByteArray) : Value := if s.size = 32 then .tuple #[.string (strOfNums (bitL s (8 * s.size))), .int .i64 0] else .tuple #[.string ⟨#[]⟩, .int .i64 (faultI s.size)]
theorem textV_32 {s : ByteArray} (h : s.size = 32) : textV s = .tuple #[.string (strOfNums (bitL s (8 * s.size))), .int .i64 0] := by unfold textV; rw [if_pos h]
theorem textV_no {s : ByteArray} (h : s.size ≠ 32) : textV s = .tuple #[.string ⟨#[]⟩, .int .i64 (faultI s.size)] := by unfold textV; rw [if_neg h]
theorem ret_eq {a b : Value} (h : a = b) : Ending.returned a = .returned b := by rw [h]

theorem specBits_any (s : ByteArray) (w : World) (hs : s.size ≤ maxLen) :
    Calls Try.prog 9 #[.string s] w fun e w' => e = .returned (textV s) ∧ Below w.heap.size w w' := by
  unfold maxLen at hs
  by_cases h1 : 65536 < s.size
  · have H := hide ((textV_no (s := s) (by omega)).trans (by rw [show faultI s.size = 2 by simp [faultI, h1]]))
    go_enter Try.func9, Try.ntmps9
    go_wp2_with fail
    go_ret2
    exact ⟨ret_eq (unhide H).symm, Below.refl _ _⟩
  · by_cases h2 : s.size = 32
    · have H := hide (textV_32 h2)
      have h2' : ((s.size : Int) != 32) = false := by simp; omega
      clear h2
      go_enter Try.func9, Try.ntmps9
      go_wp2_with fail
      refine (l01Bits_any s _ (by omega)).mono ?_
      rintro e w' ⟨rfl, hb⟩
      go_wp2_with fail
      go_ret2
      exact ⟨ret_eq (unhide H).symm, hb⟩
    · have H := hide ((textV_no h2).trans (by rw [show faultI s.size = 1 by simp [faultI, h1, h2]]))
      have h2' : ((s.size : Int) != 32) = true := by simp; omega
      clear h2
      go_enter Try.func9, Try.ntmps9
      go_wp2_with fail
      go_ret2
      exact ⟨ret_eq (unhide H).symm, Below.refl _ _⟩


set_option maxRecDepth 100000 in
set_option maxHeartbeats 1000000 in
theorem implBits_any (s : ByteArray) (w : World) (hs : s.size ≤ maxLen) :
    Calls Try.prog 10 #[.string s] w fun e w' => e = .returned (textV s) ∧ Below w.heap.size w w' := by
  have hs' := hide hs
  unfold maxLen at hs
  by_cases h2 : s.size = 32
  · have H := hide ((textV_32 h2).trans (by rw [h2]))
    have H0 := hide (show faultI s.size = 0 by simp [faultI, h2])
    have hle : s.size ≤ 32 := by omega
    have hge : 32 ≤ s.size := by omega
    obtain ⟨i0, hi, hz0, hz1, hz2⟩ := info_parts info5
    clear h2
    go_enter Try.func10, Try.ntmps10
    go_wp2_with fail
    refine (hashFault_any s _ (unhide hs')).mono ?_
    rintro e w' ⟨rfl, rfl⟩
    rw [unhide H0]
    go_wp2_with (at_make; refine wpList_make_own _ rfl _ _ 22 rfl w'.heap.size 5 i0 _ 1 Try.underlying22 hi hz0 hz1 .i64 .i64 256 256 rfl rfl rfl (by rw [hz2]; omega) (by unfold maxLen; omega) (Nat.le_refl _) ?_; intro w1 hown1 hg1)
    go_loopw [5, 6, 13] (fun v _ i wr => ∃ k : Nat, k ≤ 256 ∧ i = .int .i64 k ∧ wr.ownsRow w'.heap.size 5 1 v k ((bitL s k).map (Value.int .u8)) ∧ Below w'.heap.size w' wr)
      (fun _ _ i _ => 256 - (intOf i).toNat)
    case atStart => exact ⟨0, Nat.zero_le _, rfl, hown1, (Below.refl _ _).grown hg1 (Nat.le_refl _) (fun k h => by cases h)⟩
    case round =>
      clear hown1 hg1
      obtain ⟨k, hk, rfl, hown, hbel⟩ := hrel
      by_cases hlt : k < 256
      · have hk8 : (0 : Int) ≤ (k : Int) / 8 := by omega
        have hk9 : (k : Int) / 8 < (s.size : Int) := by omega
        have e1 := bAt_eq s (k / 8) (by omega)
        go_wp2_with (at_builtin; refine wpList_append_own _ rfl _ _ 22 rfl w'.heap.size 5 i0 (.int .u8 0) 1 1 Try.underlying22 hi hz0 hz1 hz2 rfl (by decide) _ _ _ rfl (hown.alloc _) ⟨_, 0, none⟩ 1 1 [_] rfl rfl (World.news_of_block (cs := #[_]) (t := 5) (fr := (0, 0)) (heap_alloc_new _ _)) (by simp [Value.oneCell']) (by unfold maxLen; omega) (by omega) (by have := hbel.size; simp; omega) ?_; intro v' w3 hown1 hgrow hnil)
        have R := hide (bits_step (n := k) (bit_here s k) hown hbel hown1 hgrow)
        clear hown1 hgrow hown hbel hnil
        refine ⟨⟨k + 1, by omega, by go_num, (unhide R).1, (unhide R).2⟩, ?_⟩
        simp [intOf]; omega
      · obtain rfl : k = 256 := by omega
        have hc := conv_own (P := Try.prog) 22 9 5 Try.underlying22 Try.underlying5 Try.underlying9 hown
        go_wp2_with fail
        go_ret2
        exact ⟨ret_eq (unhide H).symm, hbel⟩
  · have H := hide (textV_no h2)
    have hf : faultI s.size = 1 ∨ faultI s.size = 2 := by unfold faultI; rw [if_neg h2]; split <;> simp
    have hf' : (faultI s.size != 0) = true := by rcases hf with h | h <;> rw [h] <;> rfl
    clear h2 hf
    go_enter Try.func10, Try.ntmps10
    go_wp2_with fail
    refine (hashFault_any s _ (unhide hs')).mono ?_
    rintro e w' ⟨rfl, rfl⟩
    have H2 := hide hf'
    generalize faultI s.size = fi at *
    go_wp2_with fail
    go_ret2
    exact ⟨ret_eq (unhide H).symm, Below.refl _ _⟩
theorem own : ownKnob Try.prog.godebug = none := by kernel_rfl

theorem walk (a0 : ByteArray) (w0 : a0.size ≤ maxLen) (w : World) :
    Calls Try.prog 4 #[.string a0] w fun e w' => e = .returned (.bool true) ∧ Below w.heap.size w w' := by
  have hb : a0.size ≤ 9223372036854775807 := by unfold maxLen at w0; omega
  by_cases h : a0.size ≤ 1048576
  · go_enter Try.func4, Try.ntmps4
    go_wp2_with fail
    refine (specBits_any a0 _ w0).mono ?_
    rintro e w1 ⟨rfl, hb1⟩
    by_cases h32 : a0.size = 32
    · rw [textV_32 h32]
      have H := hide (textV_32 h32)
      generalize strOfNums (bitL a0 (8 * a0.size)) = x at *
      clear h32
      go_wp2_with fail
      refine (implBits_any a0 _ w0).mono ?_
      rintro e w2 ⟨rfl, hb2⟩
      rw [unhide H]
      go_wp2_with fail
      go_ret
      exact ⟨rfl, hb1.trans (hb2.mono hb1.size)⟩
    · rw [textV_no h32]
      have H := hide (textV_no h32)
      generalize faultI a0.size = x at *
      clear h32
      go_wp2_with fail
      refine (implBits_any a0 _ w0).mono ?_
      rintro e w2 ⟨rfl, hb2⟩
      rw [unhide H]
      go_wp2_with fail
      go_ret
      exact ⟨rfl, hb1.trans (hb2.mono hb1.size)⟩
  · go_enter Try.func4, Try.ntmps4
    go_wp2_with fail
    go_ret
    exact ⟨rfl, Below.refl _ _⟩

set_option maxRecDepth 100000 in
theorem lifted (os : Os) (started : os.Started) (H : Type) (enc : TypeId × Value → H) :
    ReturnsInHanded {} Try.checked os 4 .any (Rows.fnExactHashBitsSpec.pre6 enc Try.prog Try.f4 Rows.fnExactHashBitsRow.domain false) (Rows.fnExactHashBitsSpec.post enc Try.prog Try.f4 false true false false) := by
  refine returnsInHanded_of_change (C := Try.checked) own started (by kernel_rfl) Try.func4
    (ChangeSpec.witness6 (enc := enc) (C := Try.checked) false ⟨#[], #[.string ByteArray.empty], []⟩ 8 (by kernel_rfl) (by kernel_rfl) (by kernel_rfl) (by kernel_rfl)) ?_
  intro W base args ds gs before hval0 hW hcnd _
  have hval : ∀ (j : Nat) t v, Try.f4.params[j]? = some t → args[j]? = some v → Value.okWide Try.prog W .any base t v := hval0
  have hW' := hW
  obtain ⟨p, q, hA0, hV, rfl, hfz, hnd⟩ := hW
  have hA : DataW.TrodAll enc Try.prog W 0 (fun _ => true) true Try.f4.params.toList args.toList ds p := hA0
  rw [Try.params4] at hA hval
  obtain ⟨v0, vs0, d0, ds0, p0, q0, hargs, rfl, rfl, h0, r0⟩ := trodAll_cons hA
  obtain ⟨rfl, rfl, rfl⟩ := trodAll_nil r0
  obtain rfl : args = #[v0] := by cases args; simp_all
  obtain ⟨rfl, rfl⟩ := trodVars_none hV
  obtain ⟨a0, rfl, rfl, rfl, w0⟩ := open_string Try.underlying9 (hval 0 9 v0 rfl rfl) h0
  clear hA0 hval0
  simp only [List.append_nil] at hW'
  refine (walk a0 w0 W).mono fun e W' ⟨he, bel⟩ => ?_
  subst he
  exact ⟨_, rfl, _, _, _, [], _, [], hW', trodAll_mk1 (shut_bool Try.underlying4 _), (trodAll_cons_mk (shut_string Try.underlying9 w0) trodAll_mk0), rfl, bel.frame _, fun h => by cases h⟩

theorem over : Rows.fnExactHashBitsRow.holds Try.pinned (OpenSpec.ofChange Rows.fnExactHashBitsSpec) :=
  OpenClaim.holds_of_wide 4 Try.f4 rfl rfl rfl rfl rfl rfl rfl ⟨rfl, rfl, rfl, rfl, rfl⟩ rfl rfl rfl rfl rfl (by kernel_rfl) Try.func4 (by kernel_rfl)
    (of_decide_eq_true (by kernel_rfl)) (by unfold Func.isWrapper; first | (rw [if_pos (by decide +kernel)]; kernel_rfl) | (rw [if_neg (by decide +kernel)]; exact ⟨rfl, rfl⟩))
    (fun os started H enc _ => lifted os started H enc)

end Go.Proofs.Ytbpadjocaigpgah.fnExactHashBits
namespace Go.Proofs.Ytbpadjocaigpgah
theorem fnExactHashBits_holds : Rows.FnExactHashBitsSaid := fnExactHashBits.over
#print axioms fnExactHashBits_holds
end Go.Proofs.Ytbpadjocaigpgah
