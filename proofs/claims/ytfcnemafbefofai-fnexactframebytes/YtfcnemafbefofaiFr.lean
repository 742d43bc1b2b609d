/- impl.frameSum, impl.FrameBytes, spec.l02Frame, spec.FrameBytes, walked. -/
import Derived.Test.YtfcnemafbefofaiIn
import Derived.Test.YtfcnemafbefofaiWrR
import Derived.Test.YtfcnemafbefofaiSpT
import Derived.Test.YtfcnemafbefofaiCrc
namespace Go.Proofs.Ytfcnemafbefofai
open Go.ChangeShapes Go.WideShapes Go.ChangeAt Go.RowKit fnExactCheck32
set_option linter.unusedVariables false

/-- The sum of a frame's length and data. -/
def sumF (l : List Int) : Int := crcV (encN (l.length : Int) 2 ++ l)
def frameL (l : List Int) : List Int := encN (l.length : Int) 2 ++ encN (sumF l) 4 ++ l
def frOut (l : List Int) : List Int × Int := if 65536 < l.length then ([], 2) else if inB l.length 1 200 then (frameL l, 0) else ([], 4)
theorem crcV_range (l : List Int) (hr : ∀ i, 0 ≤ l.getD i 0 ∧ l.getD i 0 ≤ 255) : 0 ≤ crcV l ∧ crcV l < 4294967296 := by
  unfold crcV
  split
  · omega
  · have := Nat.xor_lt_two_pow (n := 32) (crc_lt l hr l.length) (show 4294967295 < 2 ^ 32 by omega)
    omega
theorem sumF_range (l : List Int) (hr : ∀ i, 0 ≤ l.getD i 0 ∧ l.getD i 0 ≤ 255) : 0 ≤ sumF l ∧ sumF l < 4294967296 := crcV_range _ (range_append (encN_range _ _) hr)

set_option maxRecDepth 100000 in
set_option maxHeartbeats 1000000 in
theorem frameSum_any (c off cap : Nat) (l : List Int) (w : World) (hc : c < w.heap.size) (hcell : ∀ i, i < l.length → w.cell? ⟨c, off + i, none⟩ = some (.int .u8 (l.getD i 0))) (hr : ∀ i, 0 ≤ l.getD i 0 ∧ l.getD i 0 ≤ 255) (h0 : 0 < l.length) (h1 : l.length ≤ 200) :
    Calls Try.prog 37 #[.slice (some ⟨c, off, none⟩) l.length cap] w fun e w' => e = .returned (.int .i64 (sumF l)) ∧ Below w.heap.size w w' := by
  have HC := hide hcell
  have HR := hide hr
  have HS : Hid (sumF l = crcV (encN (l.length : Int) 2 ++ l)) := rfl
  clear hcell hr
  go_enter Try.func37, Try.ntmps37
  go_wp2_with fail
  have W0 := hide (Wr.new w w.heap.size rfl 60)
  have HS0 : Hid ((w.alloc (.cells #[.slice none 0 0] 60)).heap.size = w.heap.size + 1) := hide (by simp)
  have B0 := hide ((Below.refl w.heap.size w).alloc (Nat.le_refl _) (.cells #[.slice none 0 0] 60))
  generalize w.alloc (.cells #[.slice none 0 0] 60) = w2 at *
  refine (numbers_new1 w.heap.size 2 2 rfl _ [] l.length w2 (unhide W0) _ (unhide HS0) (by omega) (by omega) (by omega) (by simp)).mono ?_
  rintro e w3 ⟨rfl, v3, hW3, hT3, hL3⟩
  rw [List.nil_append] at hW3
  have B3 := hide ((unhide B0).trans ((unhide W0).below hT3 (Nat.le_refl _)))
  have W3 := hide hW3
  clear hW3 hT3 hL3
  go_wp2_with fail
  refine (raw_any w.heap.size v3 _ l c off cap w3 (unhide W3) (Nat.lt_of_lt_of_le hc (unhide B3).size) (fun i hi => ((unhide B3).cell (p := ⟨c, off + i, none⟩) hc).trans (unhide HC i hi)) (unhide HR) h0 (by omega) (by simp [encN])).mono ?_
  rintro e w4 ⟨rfl, v4, hW4, hT4, hL4⟩
  have B4 := hide ((unhide B3).trans ((unhide W3).below hT4 (Nat.le_refl _)))
  have hO : OwnB (w.heap.size + 1) w4 v4 (encN (l.length : Int) 2 ++ l) := ⟨hW4.2.2.2.1, hW4.2.2.2.2⟩
  have hcell := hW4.1
  have HB := hide hO.bytes
  clear hW4 hT4 hL4 hO
  go_wp2_with fail
  refine (implCheck_any _ _ _ (unhide HB)).mono ?_
  rintro e w5 ⟨rfl, rfl⟩
  rw [← unhide HS]
  go_wp2_with fail
  go_ret
  exact ⟨rfl, unhide B4⟩

set_option maxRecDepth 100000 in
set_option maxHeartbeats 1000000 in
theorem implFrameBytes_any (v : Value) (l : List Int) (w : World) (h : Bytes w v l) :
    Calls Try.prog 14 #[v] w fun e w' => ∃ v', e = .returned (.tuple #[v', .int .i64 (frOut l).2]) ∧ OwnB w.heap.size w' v' (frOut l).1 ∧ Below w.heap.size w w' := by
  obtain ⟨a, cap, rfl, hm, hc, hr⟩ := h
  have HR := hide hr
  unfold maxLen at hm
  by_cases hl : 65536 < l.length
  · have E := hide (show frOut l = ([], 2) by simp [frOut, hl])
    clear hc hr
    go_enter Try.func14, Try.ntmps14
    go_wp2_with fail
    go_ret2
    exact ⟨.slice none 0 0, ret_two (by rw [unhide E]), by rw [unhide E]; exact OwnB.nil _ _, Below.refl _ _⟩
  rcases Bool.eq_false_or_eq_true (inB l.length 1 200) with hin | hin
  · have E := hide (show frOut l = (frameL l, 0) by simp [frOut, hl, hin])
    obtain ⟨g0, g1⟩ := inB_iff.1 hin
    have hs := sumF_range l hr
    obtain ⟨c, off, rfl, hcl, hcell⟩ : ∃ c off, a = some ⟨c, off, none⟩ ∧ c < w.heap.size ∧ ∀ i, i < l.length → w.cell? ⟨c, off + i, none⟩ = some (.int .u8 (l.getD i 0)) := by
      rcases hc with h0 | h1
      · omega
      · exact h1
    have HC := hide hcell
    clear hc hr hcell
    go_enter Try.func14, Try.ntmps14
    go_wp2_with (go_at_call 35; refine (within_any _ _ _ _).mono ?_; rintro e w' ⟨rfl, hw'⟩; have hw2 := hw'.symm; clear hw'; subst hw2)
    have W0 := hide (Wr.new w w.heap.size rfl 60)
    have HS0 : Hid ((w.alloc (.cells #[.slice none 0 0] 60)).heap.size = w.heap.size + 1) := hide (by simp)
    have B0 := hide ((Below.refl w.heap.size w).alloc (Nat.le_refl _) (.cells #[.slice none 0 0] 60))
    generalize w.alloc (.cells #[.slice none 0 0] 60) = w2 at *
    refine (numbers_new1 w.heap.size 2 2 rfl _ [] l.length w2 (unhide W0) _ (unhide HS0) (by omega) (by omega) (by omega) (by simp)).mono ?_
    rintro e w3 ⟨rfl, v3, hW3, hT3, hL3⟩
    rw [List.nil_append] at hW3
    have B3 := hide ((unhide B0).trans ((unhide W0).below hT3 (Nat.le_refl _)))
    have W3 := hide hW3
    clear hW3 hT3 hL3
    go_wp2_with fail
    refine (frameSum_any c off cap l w3 (Nat.lt_of_lt_of_le hcl (unhide B3).size) (fun i hi => ((unhide B3).cell (p := ⟨c, off + i, none⟩) hcl).trans (unhide HC i hi)) (unhide HR) (by omega) (by omega)).mono ?_
    rintro e w4 ⟨rfl, hb4⟩
    have B4 := hide ((unhide B3).trans (hb4.mono (unhide B3).size))
    have W4 := hide ((unhide W3).kept (T := fun _ => False) (Touch.ofBelow hb4) (fun h => h) (fun _ _ h => h))
    clear hb4 W3 B3
    go_wp2_with fail
    refine (numbers_new1 w.heap.size 4 4 rfl v3 _ (sumF l) w4 (unhide W4) _ rfl (by omega) hs.1 hs.2 (by simp [encN])).mono ?_
    rintro e w5 ⟨rfl, v5, hW5, hT5, hL5⟩
    have B5 := hide ((unhide B4).trans ((unhide W4).below hT5 (Nat.le_refl _)))
    have W5 := hide hW5
    clear hW5 hT5 hL5
    go_wp2_with fail
    refine (raw_any w.heap.size v5 _ l c off cap w5 (unhide W5) (Nat.lt_of_lt_of_le hcl (unhide B5).size) (fun i hi => ((unhide B5).cell (p := ⟨c, off + i, none⟩) hcl).trans (unhide HC i hi)) (unhide HR) (by omega) (by omega) (by simp [encN])).mono ?_
    rintro e w6 ⟨rfl, v6, hW6, hT6, hL6⟩
    have B6 := hide ((unhide B5).trans ((unhide W5).below hT6 (Nat.le_refl _)))
    have hcell := hW6.1
    have W6 := hide hW6
    clear hW6 hT6 hL6
    go_wp2_with fail
    go_ret2
    refine ⟨v6, ret_two (by rw [unhide E]), ?_, unhide B6⟩
    rw [unhide E]
    exact OwnB.mono (B := w.heap.size + 1) ⟨(unhide W6).2.2.2.1, (unhide W6).2.2.2.2⟩ (by omega)
  · have E := hide (show frOut l = ([], 4) by simp [frOut, hl, hin])
    clear hc hr
    go_enter Try.func14, Try.ntmps14
    go_wp2_with (go_at_call 35; refine (within_any _ _ _ _).mono ?_; rintro e w' ⟨rfl, hw'⟩; have hw2 := hw'.symm; clear hw'; subst hw2)
    go_ret2
    exact ⟨.slice none 0 0, ret_two (by rw [unhide E]), by rw [unhide E]; exact OwnB.nil _ _, Below.refl _ _⟩
end Go.Proofs.Ytfcnemafbefofai
