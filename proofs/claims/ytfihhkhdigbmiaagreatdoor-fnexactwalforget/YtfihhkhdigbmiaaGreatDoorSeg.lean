/- A segment's name: impl.SegmentName, spec.SegmentName; a name's number. -/
import Derived.Test.YtfihhkhdigbmiaaGreatDoorIn
namespace Go.Proofs.YtfihhkhdigbmiaaGreatDoor
open Go.ChangeShapes Go.WideShapes Go.ChangeAt Go.RowKit
set_option linter.unusedVariables false

theorem ret_two2 {a a' : ByteArray} {b b' : Int} (h : a' = a ∧ b' = b) : Ending.returned (.tuple #[.string a, .int .i64 b]) = .returned (.tuple #[.string a', .int .i64 b']) := by rw [h.1, h.2]
/-- The name of segment n: s and two digits. -/
def segN (n : Int) : ByteArray := strOfNums [115, 48 + n / 10, 48 + n % 10]
def segT (n : Int) : ByteArray := if inB n 1 99 then segN n else ⟨#[]⟩
def segC (n : Int) : Int := if inB n 1 99 then 0 else 4
theorem wrapSg (n : Int) (h0 : -9223372036854775808 ≤ n) (h1 : n < 9223372036854775808) : IntKind.i64.wrap n = n := by
  simp only [IntKind.wrap, IntKind.bits, IntKind.signed]
  simp
  omega
theorem wrapBg (n : Int) (h0 : 0 ≤ n) (h1 : n < 256) : IntKind.u8.wrap n = n := by
  simp only [IntKind.wrap, IntKind.bits, IntKind.signed]
  simp
  omega
theorem conv_lit (w : World) (a : Int) : (convert 79 9 (.slice (some ⟨w.heap.size, 0, none⟩) 1 1)).run Tryz.prog (w.alloc (.cells #[.int .u8 a] 5)) = .ok (.string (strOfNums [a])) (w.alloc (.cells #[.int .u8 a] 5)) :=
  run_convert_bytes_arg (P := Tryz.prog) _ 79 5 Tryz.underlying79 Tryz.underlying5 w.heap.size 0 1 1 [a] rfl (fun i hi => by
    obtain rfl : i = 0 := by omega
    rw [World.cell?_alloc_at _ _ _ _ rfl]; rfl) 9 Tryz.underlying9
theorem conv_lit3 (w : World) (a b c : Int) : (convert 79 9 (.slice (some ⟨w.heap.size, 0, none⟩) 3 3)).run Tryz.prog (w.alloc (.cells #[.int .u8 a, .int .u8 b, .int .u8 c] 5)) = .ok (.string (strOfNums [a, b, c])) (w.alloc (.cells #[.int .u8 a, .int .u8 b, .int .u8 c] 5)) :=
  run_convert_bytes_arg (P := Tryz.prog) _ 79 5 Tryz.underlying79 Tryz.underlying5 w.heap.size 0 3 3 [a, b, c] rfl (fun i hi => by
    rw [World.cell?_alloc_at _ _ _ _ rfl]
    match i, hi with
    | 0, _ => rfl
    | 1, _ => rfl
    | 2, _ => rfl) 9 Tryz.underlying9
set_option maxRecDepth 100000 in
set_option maxHeartbeats 1000000 in
theorem l00Digits_one (n : Int) (w : World) (h0 : 0 ≤ n) (h1 : n < 10) :
    Calls Tryz.prog 63 #[.int .i64 n] w fun e w' => e = .returned (.string (strOfNums [48 + n])) ∧ Below w.heap.size w w' := by
  have a1 : ¬ n = -9223372036854775808 := by omega
  have a2 : ¬ n < 0 := by omega
  have a3 := wrapSg (48 + n) (by omega) (by omega)
  have a4 := wrapBg (48 + n) (by omega) (by omega)
  have hc := conv_lit w (48 + n)
  have B := hide ((Below.refl w.heap.size w).alloc (Nat.le_refl _) (.cells #[.int .u8 (48 + n)] 5))
  go_enter Tryz.func63, Tryz.ntmps63
  go_wp2_with fail
  go_ret
  exact ⟨rfl, unhide B⟩
theorem segN_parts (n : Int) : (ByteArray.mk #[115] ++ strOfNums [48 + n / 10]) ++ strOfNums [48 + n % 10] = segN n := by
  unfold segN strOfNums
  rfl
set_option maxRecDepth 100000 in
set_option maxHeartbeats 1000000 in
theorem l04Name_any (n : Int) (w : World) (h0 : 0 ≤ n) (h1 : n ≤ 99) :
    Calls Tryz.prog 36 #[.int .i64 n] w fun e w' => e = .returned (.string (segN n)) ∧ Below w.heap.size w w' := by
  have t1 : n.tdiv 10 = n / 10 := Int.tdiv_eq_ediv_of_nonneg (by omega)
  have t2 : n.tmod 10 = n % 10 := Int.tmod_eq_emod_of_nonneg (by omega)
  have a0 := wrapSg (n / 10) (by omega) (by omega)
  have a00 := wrapSg (n % 10) (by omega) (by omega)
  go_enter Tryz.func36, Tryz.ntmps36
  go_wp2_with fail
  refine (l00Digits_one (n / 10) _ (by omega) (by omega)).mono ?_
  rintro e w1 ⟨rfl, hb1⟩
  have B1 := hide hb1
  clear hb1
  go_wp2_with fail
  refine (l00Digits_one (n % 10) _ (by omega) (by omega)).mono ?_
  rintro e w2 ⟨rfl, hb2⟩
  have B2 := hide ((unhide B1).trans (hb2.mono (unhide B1).size))
  clear hb2
  go_wp2_with fail
  go_ret
  exact ⟨by rw [← segN_parts]; rfl, unhide B2⟩
end Go.Proofs.YtfihhkhdigbmiaaGreatDoor
