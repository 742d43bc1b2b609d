/- impl.CommandBytes, walked. -/
import Derived.Test.YtmjbcepkfgfdmaaCmd
import Derived.Test.YtmjbcepkfgfdmaaWrT
namespace Go.Proofs.Ytmjbcepkfgfdmaa
open Go.ChangeShapes Go.WideShapes Go.ChangeAt Go.RowKit
set_option linter.unusedVariables false

def cmdBytes (k s q : Int) (key val : ByteArray) : List Int := encN k 1 ++ (encN s 2 ++ encN q 2) ++ textsL [key, val]
theorem cmdOK_bounds {k s q : Int} {key val : ByteArray} (h : cmdOK k s q key val = true) : 1 ≤ k ∧ k ≤ 5 ∧ 0 ≤ s ∧ s ≤ 65535 ∧ 0 ≤ q ∧ q ≤ 65535 ∧ key.size ≤ 24 ∧ val.size ≤ 60 := by
  unfold cmdOK at h
  split at h
  · rename_i h1
    simp only [Bool.and_eq_true, decide_eq_true_eq, inB_iff] at h1
    have hk : 1 ≤ k ∧ k ≤ 5 ∧ key.size ≤ 24 := by
      split at h
      · rw [inB_iff] at h; omega
      · split at h
        · simp only [Bool.and_eq_true, inB_iff] at h; omega
        · split at h
          · simp only [Bool.and_eq_true, emptyB_iff] at h; omega
          · cases h
    omega
  · cases h
/-- A command's bytes and the code beside them. -/
def cmdOut (k s q : Int) (key val : ByteArray) : List Int × Int := if cmdOK k s q key val then (cmdBytes k s q key val, 0) else ([], 1)

set_option maxRecDepth 100000 in
set_option maxHeartbeats 1000000 in
theorem implCommandBytes_any (k s q : Int) (key val : ByteArray) (w : World) (hk : key.size ≤ maxLen) (hv : val.size ≤ maxLen) :
    Calls Try.prog 7 #[.agg #[.int .i64 k, .int .i64 s, .int .i64 q, .string key, .string val]] w fun e w' => ∃ v', e = .returned (.tuple #[v', .int .i64 (cmdOut k s q key val).2]) ∧ OwnB w.heap.size w' v' (cmdOut k s q key val).1 ∧ Below w.heap.size w w' := by
  rcases Bool.eq_false_or_eq_true (cmdOK k s q key val) with h1 | h1
  case inr =>
    have E := hide (show cmdOut k s q key val = ([], 1) by simp [cmdOut, h1])
    go_enter Try.func7, Try.ntmps7
    go_wp2_with fail
    refine (implCommandOK_any k s q key val _ hk hv).mono ?_
    rintro e w1 ⟨rfl, hb1⟩
    have HB := hide (((Below.refl w.heap.size w).alloc (Nat.le_refl _) (.cells #[.int .i64 k, .int .i64 s, .int .i64 q, .string key, .string val] 24)).trans (hb1.mono (by simp)))
    clear hb1
    go_wp2_with fail
    go_ret2
    exact ⟨.slice none 0 0, ret_two (by rw [unhide E]), by rw [unhide E]; exact OwnB.nil _ _, unhide HB⟩
  case inl =>
    have E := hide (show cmdOut k s q key val = (cmdBytes k s q key val, 0) by simp [cmdOut, h1])
    obtain ⟨b1, b2, b3, b4, b5, b6, b7, b8⟩ := cmdOK_bounds h1
    go_enter Try.func7, Try.ntmps7
    go_wp2_with fail
    refine (implCommandOK_any k s q key val _ hk hv).mono ?_
    rintro e w1 ⟨rfl, hb1⟩
    have hb1' : Below (w.heap.size + 1) (w.alloc (.cells #[.int .i64 k, .int .i64 s, .int .i64 q, .string key, .string val] 24)) w1 := hb1.mono (by simp)
    have HB1 := hide hb1'
    obtain ⟨c0, c1, c2, c3, c4⟩ := five_cell rfl hb1'
    have hsz : w.heap.size < w1.heap.size := by have := hb1'.size; simp at this; omega
    clear hb1 hb1'
    go_wp2_with fail
    have W0 := hide (Wr.new w1 w1.heap.size rfl 56)
    have HS0 : Hid ((w1.alloc (.cells #[.slice none 0 0] 56)).heap.size = w1.heap.size + 1) := hide (by simp)
    have HB0 := hide ((unhide HB1).alloc (by omega) (.cells #[.slice none 0 0] 56))
    generalize w1.alloc (.cells #[.slice none 0 0] 56) = w2 at *
    refine (numbers_new1 w1.heap.size 1 1 rfl _ [] k w2 (unhide W0) _ (unhide HS0) (by omega) (by omega) (by omega) (by simp)).mono ?_
    rintro e w3 ⟨rfl, v3, hW3, hT3, hL3⟩
    have HB3 := hide ((unhide HB0).trans ((unhide W0).below hT3 hsz))
    have W3 := hide hW3
    obtain ⟨c0, c1, c2, c3, c4⟩ := five_cell rfl (unhide HB3)
    clear hW3 hT3 hL3
    go_wp2_with fail
    refine (numbers_new2 w1.heap.size 2 2 rfl v3 _ s q w3 (unhide W3) _ rfl (by omega) (by omega) (by omega) (by omega) (by omega) (by simp [encN])).mono ?_
    rintro e w4 ⟨rfl, v4, hW4, hT4, hL4⟩
    have HB4 := hide ((unhide HB3).trans ((unhide W3).below hT4 hsz))
    have W4 := hide hW4
    obtain ⟨c0, c1, c2, c3, c4⟩ := five_cell rfl (unhide HB4)
    clear hW4 hT4 hL4
    go_wp2_with fail
    refine (texts_new2 w1.heap.size v4 _ key val w4 (unhide W4) _ rfl (by omega) (by omega) (by simp [encN])).mono ?_
    rintro e w5 ⟨rfl, v5, hW5, hT5, hL5⟩
    have HB5 := hide ((unhide HB4).trans ((unhide W4).below hT5 hsz))
    have W5 := hide hW5
    have hcell := hW5.1
    clear hW5 hT5 hL5
    go_wp2_with fail
    go_ret2
    refine ⟨v5, ret_two (by rw [unhide E]), ?_, ((Below.refl w.heap.size w).alloc (Nat.le_refl _) _).trans ((unhide HB5).mono (by omega))⟩
    rw [unhide E]
    exact OwnB.mono (B := w1.heap.size + 1) ⟨by have h := (unhide W5).2.2.2.1; simpa [cmdBytes] using h, by have h := (unhide W5).2.2.2.2; simpa [cmdBytes] using h⟩ (by omega)
end Go.Proofs.Ytmjbcepkfgfdmaa
