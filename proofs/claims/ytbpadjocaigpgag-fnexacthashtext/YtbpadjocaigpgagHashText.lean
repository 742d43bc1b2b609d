/- For every text that can be read, laws.FnExactHashText returns true and the text reads as it did. No condition. -/
import Derived.Test.YtbpadjocaigpgagBase
import Derived.Deep.RegionHeld3
import Derived.WalkSpells
namespace Go.Proofs.Ytbpadjocaigpgag.fnExactHashText
open Go.ChangeShapes Go.WideShapes Go.ChangeAt Go.RowKit
open Go.ChangeMaps (open_string shut_string)
set_option linter.unusedVariables false

theorem info5 : (Try.prog.info? 5).map (fun i => (i.zero, i.size, i.bytes)) = some (some (.int .u8 0), 1, 1) := by kernel_rfl

def hexD (n : Int) : Int := if n < 10 then 48 + n else 87 + n
def hexL (s : ByteArray) : Nat → List Int
  | 0 => []
  | k + 1 => hexL s k ++ [hexD (bAt s k / 16), hexD (bAt s k % 16)]
theorem hexL_len (s : ByteArray) (k : Nat) : (hexL s k).length = 2 * k := by
  induction k with
  | zero => rfl
  | succ k ih => simp [hexL, ih]; omega

theorem tab (n : Int) (h0 : 0 ≤ n) (h1 : n < 16) {h : n.toNat < ({ data := #[48, 49, 50, 51, 52, 53, 54, 55, 56, 57, 97, 98, 99, 100, 101, 102] } : ByteArray).size} : ((({ data := #[48, 49, 50, 51, 52, 53, 54, 55, 56, 57, 97, 98, 99, 100, 101, 102] } : ByteArray)[n.toNat]'h).toNat : Int) = hexD n := by
  rcases (show n = 0 ∨ n = 1 ∨ n = 2 ∨ n = 3 ∨ n = 4 ∨ n = 5 ∨ n = 6 ∨ n = 7 ∨ n = 8 ∨ n = 9 ∨ n = 10 ∨ n = 11 ∨ n = 12 ∨ n = 13 ∨ n = 14 ∨ n = 15 by omega) with
    rfl | rfl | rfl | rfl | rfl | rfl | rfl | rfl | rfl | rfl | rfl | rfl | rfl | rfl | rfl | rfl
  all_goals rfl
theorem hex_zero (w : World) (s : ByteArray) : (w.alloc (Obj.cells #[] 5)).ownsRow w.heap.size 5 1 (Value.slice (some { block := w.heap.size, off := 0 }) 0 0) (2 * 0) (List.map (Value.int .u8) (hexL s 0)) :=
  World.ownsRow_made w #[] 0 (Nat.le_refl _) (by unfold maxLen; omega) rfl
theorem hex_step {s : ByteArray} {k : Nat} (hk : k < s.size) {w wr w1 : World} {o : Obj} {gg cap : Nat} {u : Value}
    (hown : wr.ownsRow w.heap.size 5 1 u (2 * k) ((hexL s k).map (Value.int .u8))) (hbel : Below w.heap.size w wr)
    (h1 : w1.ownsRow w.heap.size 5 1 (.slice (some ⟨gg, 0, none⟩) (2 * k + 2) cap) (2 * k + 2) ((hexL s k).map (Value.int .u8) ++ [.int .u8 (hexD ((s[k].toNat : Int) / 16)), .int .u8 (hexD ((s[k].toNat : Int) % 16))]))
    (hg : (wr.alloc o).drew.grownBy w1 u.ownBlock) :
    w1.ownsRow w.heap.size 5 1 (.slice (some ⟨gg, 0, none⟩) (2 * k + 2) cap) (2 * (k + 1)) ((hexL s (k + 1)).map (Value.int .u8)) ∧ Below w.heap.size w w1 := by
  constructor
  · rw [bAt_eq s k hk] at h1
    have e : 2 * (k + 1) = 2 * k + 2 := by omega
    rw [e]
    simpa [hexL] using h1
  · have hz := hbel.size
    refine ((hbel.alloc (by omega) o).drew).grown hg (by simp; omega) ?_
    intro r hr
    exact (hown.lt r hr).1
theorem and15 (c : Nat) (h : c < 256) : bits BinOp.and IntKind.u8 (c : Int) 15 = (c : Int) % 16 := by
  have := u8_and_nat c 15 h (by omega)
  have e : c &&& 15 = c % 16 := Nat.and_two_pow_sub_one_eq_mod c 4
  rw [e] at this
  rw [show (15 : Int) = ((15 : Nat) : Int) from rfl, this]; simp
theorem wrap_u8 (n : Int) (h0 : 0 ≤ n) (h1 : n < 256) : IntKind.u8.wrap n = n := by
  simp [IntKind.wrap, IntKind.bits, IntKind.signed]; omega
set_option maxRecDepth 100000 in
set_option maxHeartbeats 1000000 in
theorem l01Hex_any (s : ByteArray) (w : World) (hs : s.size ≤ 65536) :
    Calls Try.prog 15 #[.string s] w fun e w' => e = .returned (.string (strOfNums (hexL s s.size))) ∧ Below w.heap.size w w' := by
  obtain ⟨i0, hi, hz0, hz1, hz2⟩ := info_parts info5
  go_enter Try.func15, Try.ntmps15
  go_wp2_with fail
  go_loopw [3, 4] (fun v i wr => ∃ k : Nat, k ≤ s.size ∧ i = .int .i64 k ∧ wr.ownsRow w.heap.size 5 1 v (2 * k) ((hexL s k).map (Value.int .u8)) ∧ Below w.heap.size w wr)
    (fun _ i _ => s.size - (intOf i).toNat)
  case atStart =>
    exact ⟨0, Nat.zero_le _, rfl, hex_zero w s, (Below.refl _ _).alloc (Nat.le_refl _) _⟩
  case round =>
    obtain ⟨k, hk, rfl, hown, hbel⟩ := hrel
    by_cases hlt : k < s.size
    · have hk0 : (0 : Int) ≤ (k : Int) := Int.natCast_nonneg _
      have hk1 : (k : Int) < (s.size : Int) := by omega
      have hb0 : (0 : Int) ≤ (s[k].toNat : Int) := Int.natCast_nonneg _
      have hb1 : (s[k].toNat : Int) ≤ 255 := by have := s[k].toNat_lt; omega
      have hq0 : (0 : Int) ≤ (s[k].toNat : Int) / 16 := by omega
      have hq1 : (s[k].toNat : Int) / 16 < 16 := by omega
      have hr0 : (0 : Int) ≤ (s[k].toNat : Int) % 16 := by omega
      have hr1 : (s[k].toNat : Int) % 16 < 16 := by omega
      have hw16 : IntKind.u8.wrap ((s[k].toNat : Int) / 16) = (s[k].toNat : Int) / 16 := by rw [wrap_u8 _ hq0 (by omega)]
      have htm : (s[k].toNat : Int).tmod 16 = (s[k].toNat : Int) % 16 := by rw [Int.tmod_eq_emod_of_nonneg hb0]
      have hwm : IntKind.u8.wrap ((s[k].toNat : Int) % 16) = (s[k].toNat : Int) % 16 := by rw [wrap_u8 _ hr0 (by omega)]
      go_wp2_with fail
      go_region_held3 (fun _ => True) (trivial)
        ((refine step_append_lies _ (by rfl) _ _ _ (by rfl) w.heap.size 5 i0 _ 1 1 Try.underlying28 hi hz0 hz1 hz2 rfl (by omega) u3 (2 * k) ((hexL s k).map (Value.int .u8)) (by rfl) ((hown.alloc _).drew) ⟨wr.heap.size, 0, none⟩ 2 2 [_, _] (by rfl) (by rfl) (World.news_of_block (cs := #[_, _]) (t := 5) (fr := (0, 0)) (heap_alloc_new wr _)) (by simp [Value.oneCell']) (by omega) (by unfold maxLen; omega) (by omega) (by have := hbel.size; simp; omega) (wr.heap.size + 1) (by simp) ?_; intro gg cap w1 hown1 hgrow hat hlt1))
      all_goals
        rw [tab _ hq0 hq1, tab _ hr0 hr1] at hown1
        have R := hide (hex_step hlt hown hbel hown1 hgrow)
        clear hown1 hgrow hat hlt1 hown hbel
        go_wp2
        go_roundw
        case rel => exact ⟨k + 1, by omega, by go_num, (unhide R).1, (unhide R).2⟩
        case measure => simp [intOf]; omega
    · obtain rfl : k = s.size := by omega
      have hc := conv_own (P := Try.prog) 28 9 5 Try.underlying28 Try.underlying5 Try.underlying9 hown
      go_wp2_with fail
      go_ret
      exact ⟨rfl, hbel⟩

def faultI (n : Nat) : Int := if 65536 < n then 2 else if n = 32 then 0 else 1
theorem hashFault_any (s : ByteArray) (w : World) (hs : s.size ≤ maxLen) :
    Calls Try.prog 16 #[.string s] w fun e w' => e = .returned (.int .i64 (faultI s.size)) ∧ w' = w := by
  unfold maxLen at hs
  by_cases h1 : 65536 < s.size
  · have H := hide (show faultI s.size = 2 by simp [faultI, h1])
    go_enter Try.func16, Try.ntmps16
    go_wp2
    go_ret
    exact ⟨ret_int (unhide H).symm, rfl⟩
  · by_cases h2 : s.size = 32
    · have H := hide (show faultI s.size = 0 by simp [faultI, h2])
      have h2' : ((s.size : Int) != 32) = false := by simp; omega
      clear h2
      go_enter Try.func16, Try.ntmps16
      go_wp2
      go_ret
      exact ⟨ret_int (unhide H).symm, rfl⟩
    · have H := hide (show faultI s.size = 1 by simp [faultI, h1, h2])
      have h2' : ((s.size : Int) != 32) = true := by simp; omega
      clear h2
      go_enter Try.func16, Try.ntmps16
      go_wp2
      go_ret
      exact ⟨ret_int (unhide H).symm, rfl⟩

def textV (s : ByteArray) : Value := if s.size = 32 then .tuple #[.string (strOfNums (hexL s s.size)), .int .i64 0] else .tuple #[.string ⟨#[]⟩, .int .i64 (faultI s.size)]
theorem textV_32 {s : ByteArray} (h : s.size = 32) : textV s = .tuple #[.string (strOfNums (hexL s s.size)), .int .i64 0] := by unfold textV; rw [if_pos h]
theorem textV_no {s : ByteArray} (h : s.size ≠ 32) : textV s = .tuple #[.string ⟨#[]⟩, .int .i64 (faultI s.size)] := by unfold textV; rw [if_neg h]
theorem ret_eq {a b : Value} (h : a = b) : Ending.returned a = .returned b := by rw [h]

theorem specHashText_any (s : ByteArray) (w : World) (hs : s.size ≤ maxLen) :
    Calls Try.prog 8 #[.string s] w fun e w' => e = .returned (textV s) ∧ Below w.heap.size w w' := by
  unfold maxLen at hs
  by_cases h1 : 65536 < s.size
  · have H := hide ((textV_no (s := s) (by omega)).trans (by rw [show faultI s.size = 2 by simp [faultI, h1]]))
    go_enter Try.func8, Try.ntmps8
    go_wp2_with fail
    go_ret2
    exact ⟨ret_eq (unhide H).symm, Below.refl _ _⟩
  · by_cases h2 : s.size = 32
    · have H := hide (textV_32 h2)
      have h2' : ((s.size : Int) != 32) = false := by simp; omega
      clear h2
      go_enter Try.func8, Try.ntmps8
      go_wp2_with fail
      refine (l01Hex_any s _ (by omega)).mono ?_
      rintro e w' ⟨rfl, hb⟩
      go_wp2_with fail
      go_ret2
      exact ⟨ret_eq (unhide H).symm, hb⟩
    · have H := hide ((textV_no h2).trans (by rw [show faultI s.size = 1 by simp [faultI, h1, h2]]))
      have h2' : ((s.size : Int) != 32) = true := by simp; omega
      clear h2
      go_enter Try.func8, Try.ntmps8
      go_wp2_with fail
      go_ret2
      exact ⟨ret_eq (unhide H).symm, Below.refl _ _⟩

set_option maxRecDepth 100000 in
set_option maxHeartbeats 1000000 in
theorem implHashText_any (s : ByteArray) (w : World) (hs : s.size ≤ maxLen) :
    Calls Try.prog 9 #[.string s] w fun e w' => e = .returned (textV s) ∧ Below w.heap.size w w' := by
  have hs' := hide hs
  unfold maxLen at hs
  by_cases h2 : s.size = 32
  · have H := hide (textV_32 h2)
    have H0 := hide (show faultI s.size = 0 by simp [faultI, h2])
    have H32 := hide h2
    have hle : s.size ≤ 32 := by omega
    obtain ⟨i0, hi, hz0, hz1, hz2⟩ := info_parts info5
    clear h2
    go_enter Try.func9, Try.ntmps9
    go_wp2_with fail
    refine (hashFault_any s _ (unhide hs')).mono ?_
    rintro e w' ⟨rfl, rfl⟩
    rw [unhide H0]
    go_wp2_with (at_make; refine wpList_make_own _ rfl _ _ 28 rfl w'.heap.size 5 i0 _ 1 Try.underlying28 hi hz0 hz1 .i64 .i64 64 64 rfl rfl rfl (by rw [hz2]; omega) (by unfold maxLen; omega) (Nat.le_refl _) ?_; intro w1 hown1 hg1)
    go_loopw [5, 6, 15] (fun v _ i wr => ∃ k : Nat, k ≤ s.size ∧ i = .int .i64 k ∧ wr.ownsRow w'.heap.size 5 1 v (2 * k) ((hexL s k).map (Value.int .u8)) ∧ Below w'.heap.size w' wr)
      (fun _ _ i _ => s.size - (intOf i).toNat)
    case atStart => exact ⟨0, Nat.zero_le _, rfl, hown1, (Below.refl _ _).grown hg1 (Nat.le_refl _) (fun k h => by cases h)⟩
    case round =>
      clear hown1 hg1
      obtain ⟨k, hk, rfl, hown, hbel⟩ := hrel
      by_cases hlt : k < s.size
      · have hk0 : (0 : Int) ≤ (k : Int) := Int.natCast_nonneg _
        have hk1 : (k : Int) < (s.size : Int) := by omega
        have hb0 : (0 : Int) ≤ (s[k].toNat : Int) := Int.natCast_nonneg _
        have hb1 : (s[k].toNat : Int) ≤ 255 := by have := s[k].toNat_lt; omega
        have hq0 : (0 : Int) ≤ (s[k].toNat : Int) / 16 := by omega
        have hq1 : (s[k].toNat : Int) / 16 < 16 := by omega
        have hr0 : (0 : Int) ≤ (s[k].toNat : Int) % 16 := by omega
        have hr1 : (s[k].toNat : Int) % 16 < 16 := by omega
        have hand : bits BinOp.and IntKind.u8 (s[k].toNat : Int) 15 = (s[k].toNat : Int) % 16 := and15 _ s[k].toNat_lt
        go_wp2_with fail
        go_region_held3 (fun _ => True) (trivial) ((refine step_append_lies _ (by rfl) _ _ _ (by rfl) w'.heap.size 5 i0 _ 1 1 Try.underlying28 hi hz0 hz1 hz2 rfl (by omega) u5 (2 * k) ((hexL s k).map (Value.int .u8)) (by rfl) ((hown.alloc _).drew) ⟨wr.heap.size, 0, none⟩ 2 2 [_, _] (by rfl) (by rfl) (World.news_of_block (cs := #[_, _]) (t := 5) (fr := (0, 0)) (heap_alloc_new wr _)) (by simp [Value.oneCell']) (by omega) (by unfold maxLen; omega) (by omega) (by have := hbel.size; simp; omega) (wr.heap.size + 1) (by simp) ?_; intro gg cap w1 hown1 hgrow hat hlt1))
        all_goals
          rw [tab _ hq0 hq1, tab _ hr0 hr1] at hown1
          have R := hide (hex_step hlt hown hbel hown1 hgrow)
          clear hown1 hgrow hat hlt1 hown hbel
          go_wp2
          go_roundw
          case rel => exact ⟨k + 1, by omega, by go_num, (unhide R).1, (unhide R).2⟩
          case measure => simp [intOf]; omega
      · obtain rfl : k = s.size := by omega
        have hc := conv_own (P := Try.prog) 28 9 5 Try.underlying28 Try.underlying5 Try.underlying9 hown
        go_wp2_with fail
        go_ret2
        exact ⟨ret_eq (unhide H).symm, hbel⟩
  · have H := hide (textV_no h2)
    have hf : faultI s.size = 1 ∨ faultI s.size = 2 := by unfold faultI; rw [if_neg h2]; split <;> simp
    have hf' : (faultI s.size != 0) = true := by rcases hf with h | h <;> rw [h] <;> rfl
    clear h2 hf
    go_enter Try.func9, Try.ntmps9
    go_wp2_with fail
    refine (hashFault_any s _ (unhide hs')).mono ?_
    rintro e w' ⟨rfl, rfl⟩
    have H2 := hide hf'
    generalize faultI s.size = fi at *
    go_wp2_with fail
    go_ret2
    exact ⟨ret_eq (unhide H).symm, Below.refl _ _⟩
theorem own : ownKnob Try.prog.godebug = none := by kernel_rfl


theorem walk (a0 : ByteArray) (w0 : a0.size ≤ maxLen) (w : World) :
    Calls Try.prog 4 #[.string a0] w fun e w' => e = .returned (.bool true) ∧ Below w.heap.size w w' := by
  have hb : a0.size ≤ 9223372036854775807 := by unfold maxLen at w0; omega
  by_cases h : a0.size ≤ 1048576
  · go_enter Try.func4, Try.ntmps4
    go_wp2_with fail
    refine (specHashText_any a0 _ w0).mono ?_
    rintro e w1 ⟨rfl, hb1⟩
    by_cases h32 : a0.size = 32
    · rw [textV_32 h32]
      have H := hide (textV_32 h32)
      generalize strOfNums (hexL a0 a0.size) = x at *
      clear h32
      go_wp2_with fail
      refine (implHashText_any a0 _ w0).mono ?_
      rintro e w2 ⟨rfl, hb2⟩
      rw [unhide H]
      go_wp2_with fail
      go_ret
      exact ⟨rfl, hb1.trans (hb2.mono hb1.size)⟩
    · rw [textV_no h32]
      have H := hide (textV_no h32)
      generalize faultI a0.size = x at *
      clear h32
      go_wp2_with fail
      refine (implHashText_any a0 _ w0).mono ?_
      rintro e w2 ⟨rfl, hb2⟩
      rw [unhide H]
      go_wp2_with fail
      go_ret
      exact ⟨rfl, hb1.trans (hb2.mono hb1.size)⟩
  · go_enter Try.func4, Try.ntmps4
    go_wp2_with fail
    go_ret
    exact ⟨rfl, Below.refl _ _⟩

set_option maxRecDepth 100000 in
theorem lifted (os : Os) (started : os.Started) (H : Type) (enc : TypeId × Value → H) :
    ReturnsInHanded {} Try.checked os 4 .any (Rows.fnExactHashTextSpec.pre6 enc Try.prog Try.f4 Rows.fnExactHashTextRow.domain false) (Rows.fnExactHashTextSpec.post enc Try.prog Try.f4 false true false false) := by
  refine returnsInHanded_of_change (C := Try.checked) own started (by kernel_rfl) Try.func4
    (ChangeSpec.witness6 (enc := enc) (C := Try.checked) false ⟨#[], #[.string ByteArray.empty], []⟩ 8 (by kernel_rfl) (by kernel_rfl) (by kernel_rfl) (by kernel_rfl)) ?_
  intro W base args ds gs before hval0 hW hcnd _
  have hval : ∀ (j : Nat) t v, Try.f4.params[j]? = some t → args[j]? = some v → Value.okWide Try.prog W .any base t v := hval0
  have hW' := hW
  obtain ⟨p, q, hA0, hV, rfl, hfz, hnd⟩ := hW
  have hA : DataW.TrodAll enc Try.prog W 0 (fun _ => true) true Try.f4.params.toList args.toList ds p := hA0
  rw [Try.params4] at hA hval
  obtain ⟨v0, vs0, d0, ds0, p0, q0, hargs, rfl, rfl, h0, r0⟩ := trodAll_cons hA
  obtain ⟨rfl, rfl, rfl⟩ := trodAll_nil r0
  obtain rfl : args = #[v0] := by cases args; simp_all
  obtain ⟨rfl, rfl⟩ := trodVars_none hV
  obtain ⟨a0, rfl, rfl, rfl, w0⟩ := open_string Try.underlying9 (hval 0 9 v0 rfl rfl) h0
  clear hA0 hval0
  simp only [List.append_nil] at hW'
  refine (walk a0 w0 W).mono fun e W' ⟨he, bel⟩ => ?_
  subst he
  exact ⟨_, rfl, _, _, _, [], _, [], hW', trodAll_mk1 (shut_bool Try.underlying4 _), (trodAll_cons_mk (shut_string Try.underlying9 w0) trodAll_mk0), rfl, bel.frame _, fun h => by cases h⟩

theorem over : Rows.fnExactHashTextRow.holds Try.pinned (OpenSpec.ofChange Rows.fnExactHashTextSpec) :=
  OpenClaim.holds_of_wide 4 Try.f4 rfl rfl rfl rfl rfl rfl rfl ⟨rfl, rfl, rfl, rfl, rfl⟩ rfl rfl rfl rfl rfl (by kernel_rfl) Try.func4 (by kernel_rfl)
    (of_decide_eq_true (by kernel_rfl)) (by unfold Func.isWrapper; first | (rw [if_pos (by decide +kernel)]; kernel_rfl) | (rw [if_neg (by decide +kernel)]; exact ⟨rfl, rfl⟩))
    (fun os started H enc _ => lifted os started H enc)

end Go.Proofs.Ytbpadjocaigpgag.fnExactHashText
namespace Go.Proofs.Ytbpadjocaigpgag
theorem fnExactHashText_holds : Rows.FnExactHashTextSaid := fnExactHashText.over
#print axioms fnExactHashText_holds
end Go.Proofs.Ytbpadjocaigpgag
