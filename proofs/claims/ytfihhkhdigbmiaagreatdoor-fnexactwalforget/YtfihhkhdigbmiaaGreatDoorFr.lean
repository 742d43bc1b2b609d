/- impl.frameSum, walked. -/
import Derived.Test.YtfihhkhdigbmiaaGreatDoorIn
import Derived.Test.YtfihhkhdigbmiaaGreatDoorWrR
import Derived.Test.YtfihhkhdigbmiaaGreatDoorSpT
import Derived.Test.YtfihhkhdigbmiaaGreatDoorCrc
namespace Go.Proofs.YtfihhkhdigbmiaaGreatDoor
open Go.ChangeShapes Go.WideShapes Go.ChangeAt Go.RowKit fnExactCheck32
set_option linter.unusedVariables false

/-- The sum of a frame's length and data. -/
def sumF (l : List Int) : Int := crcV (encN (l.length : Int) 2 ++ l)
def frameL (l : List Int) : List Int := encN (l.length : Int) 2 ++ encN (sumF l) 4 ++ l
def frOut (l : List Int) : List Int × Int := if 65536 < l.length then ([], 2) else if inB l.length 1 200 then (frameL l, 0) else ([], 4)
theorem crcV_range (l : List Int) (hr : ∀ i, 0 ≤ l.getD i 0 ∧ l.getD i 0 ≤ 255) : 0 ≤ crcV l ∧ crcV l < 4294967296 := by
  unfold crcV
  split
  · omega
  · have := Nat.xor_lt_two_pow (n := 32) (crc_lt l hr l.length) (show 4294967295 < 2 ^ 32 by omega)
    omega
theorem sumF_range (l : List Int) (hr : ∀ i, 0 ≤ l.getD i 0 ∧ l.getD i 0 ≤ 255) : 0 ≤ sumF l ∧ sumF l < 4294967296 := crcV_range _ (range_append (encN_range _ _) hr)

set_option maxRecDepth 100000 in
set_option maxHeartbeats 1000000 in
theorem frameSum_any (c off cap : Nat) (l : List Int) (w : World) (hc : c < w.heap.size) (hcell : ∀ i, i < l.length → w.cell? ⟨c, off + i, none⟩ = some (.int .u8 (l.getD i 0))) (hr : ∀ i, 0 ≤ l.getD i 0 ∧ l.getD i 0 ≤ 255) (h0 : 0 < l.length) (h1 : l.length ≤ 200) :
    Calls Tryz.prog 81 #[.slice (some ⟨c, off, none⟩) l.length cap] w fun e w' => e = .returned (.int .i64 (sumF l)) ∧ Below w.heap.size w w' := by
  have HC := hide hcell
  have HR := hide hr
  have HS : Hid (sumF l = crcV (encN (l.length : Int) 2 ++ l)) := rfl
  clear hcell hr
  go_enter Tryz.func81, Tryz.ntmps81
  go_wp2_with fail
  have W0 := hide (Wr.new w w.heap.size rfl 132)
  have HS0 : Hid ((w.alloc (.cells #[.slice none 0 0] 132)).heap.size = w.heap.size + 1) := hide (by simp)
  have B0 := hide ((Below.refl w.heap.size w).alloc (Nat.le_refl _) (.cells #[.slice none 0 0] 132))
  generalize w.alloc (.cells #[.slice none 0 0] 132) = w2 at *
  refine (numbers_new1 w.heap.size 2 2 rfl _ [] l.length w2 (unhide W0) _ (unhide HS0) (by omega) (by omega) (by omega) (by simp)).mono ?_
  rintro e w3 ⟨rfl, v3, hW3, hT3, hL3⟩
  rw [List.nil_append] at hW3
  have B3 := hide ((unhide B0).trans ((unhide W0).below hT3 (Nat.le_refl _)))
  have W3 := hide hW3
  clear hW3 hT3 hL3
  go_wp2_with fail
  refine (raw_any w.heap.size v3 _ l c off cap w3 (unhide W3) (Nat.lt_of_lt_of_le hc (unhide B3).size) (fun i hi => ((unhide B3).cell (p := ⟨c, off + i, none⟩) hc).trans (unhide HC i hi)) (unhide HR) h0 (by omega) (by simp [encN])).mono ?_
  rintro e w4 ⟨rfl, v4, hW4, hT4, hL4⟩
  have B4 := hide ((unhide B3).trans ((unhide W3).below hT4 (Nat.le_refl _)))
  have hO : OwnB (w.heap.size + 1) w4 v4 (encN (l.length : Int) 2 ++ l) := ⟨hW4.2.2.2.1, hW4.2.2.2.2⟩
  have hcell := hW4.1
  have HB := hide hO.bytes
  clear hW4 hT4 hL4 hO
  go_wp2_with fail
  refine (implCheck_any _ _ _ (unhide HB)).mono ?_
  rintro e w5 ⟨rfl, rfl⟩
  rw [← unhide HS]
  go_wp2_with fail
  go_ret
  exact ⟨rfl, unhide B4⟩

end Go.Proofs.YtfihhkhdigbmiaaGreatDoor
