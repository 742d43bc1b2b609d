/- Keys: their faults and their hashes. -/
import Derived.Test.YtnajpeaieeaflaaDoorMkA
import Derived.Test.YtnajpeaieeaflaaDoorBrP
import Derived.Test.YtnajpeaieeaflaaDoorTxf
namespace Go.Proofs.YtnajpeaieeaflaaDoor.Sha
open Go.ChangeShapes Go.WideShapes Go.ChangeAt Go.RowKit
set_option linter.unusedVariables false

theorem kh_size {k : ByteArray} (h : k.size ≤ 65536) : (kh k).size = 32 := hash_size (by rw [bytesI_len]; exact h)
theorem keyFault_any (s : ByteArray) (w : World) (hs : s.size ≤ maxLen) :
    Calls Tryd.prog 28 #[.string s] w fun e w' => e = .returned (.int .i64 (txC s.size 1 24)) ∧ w' = w := by
  have H := hide (textFault_any s 1 24 w hs)
  generalize txC s.size 1 24 = c at *
  go_enter Tryd.func28, Tryd.ntmps28
  go_wp2_with fail
  refine (unhide H).mono ?_
  rintro e w9 ⟨rfl, hw9⟩
  subst w9
  go_wp2_with fail
  go_ret
  exact ⟨rfl, rfl⟩
theorem okK_in (k : ByteArray) : okK k = inB k.size 1 24 := by
  unfold okK inB; congr 1 <;> (apply decide_eq_decide.2; omega)
theorem keyOKb_any (s : ByteArray) (w : World) (hs : s.size ≤ maxLen) :
    Calls Tryd.prog 31 #[.string s] w fun e w' => e = .returned (.bool (okK s)) ∧ w' = w := by
  rw [okK_in]
  unfold maxLen at hs
  have H := hide (within_any s.size 1 24 w)
  generalize inB s.size 1 24 = b at *
  go_enter Tryd.func31, Tryd.ntmps31
  go_wp2_with fail
  refine (unhide H).mono ?_
  rintro e w9 ⟨rfl, hw9⟩
  subst w9
  go_wp2_with fail
  go_ret
  exact ⟨rfl, rfl⟩
theorem l02Keyb_any (s : ByteArray) (w : World) (hs : s.size ≤ maxLen) :
    Calls Tryd.prog 23 #[.string s] w fun e w' => e = .returned (.bool (okK s)) ∧ w' = w := by
  rw [okK_in]
  unfold maxLen at hs
  by_cases h1 : 1 ≤ (s.size : Int)
  · have H : Hid (inB s.size 1 24 = decide ((s.size : Int) ≤ 24)) := hide (by simp [inB, h1])
    go_enter Tryd.func23, Tryd.ntmps23
    go_wp2_with fail
    go_ret
    exact ⟨ret_bool (unhide H).symm, rfl⟩
  · have H := hide (show inB s.size 1 24 = false by simp [inB]; omega)
    go_enter Tryd.func23, Tryd.ntmps23
    go_wp2_with fail
    go_ret
    exact ⟨ret_bool (unhide H).symm, rfl⟩
set_option maxRecDepth 100000 in
set_option maxHeartbeats 1000000 in
theorem l07Hash_any (k : ByteArray) (w : World) (hk : k.size ≤ 65536) :
    Calls Tryd.prog 37 #[.string k] w fun e w' => e = .returned (.string (kh k)) ∧ Below w.heap.size w w' := by
  obtain ⟨cap, w1, hcv, hB, hb1⟩ := str_bytesB k w (by unfold maxLen; omega)
  have hl : (bytesI k).length = k.size := bytesI_len k
  have HV : Hid (kh k = strOfNums (textL (stAt (bytesI k) (padLen (bytesI k).length / 64)))) := hide (hashV_yes (by omega))
  have hB' : Bytes w1 (.slice (some ⟨w.heap.size, 0, none⟩) (bytesI k).length cap) (bytesI k) := by rw [hl]; exact hB
  have HL := hide (l01Hash_any _ _ _ w1 hB' (by omega))
  rw [hl] at HL HV
  have B1 := hide hb1
  clear hb1 hB hB' hl
  go_enter Tryd.func37, Tryd.ntmps37
  go_wp2_with fail
  refine (unhide HL).mono ?_
  rintro e w3 ⟨rfl, hb3⟩
  have K := hide ((unhide B1).trans (hb3.mono (unhide B1).size))
  clear hb3
  rw [← unhide HV]
  go_wp2_with fail
  go_ret
  exact ⟨rfl, unhide K⟩
end Go.Proofs.YtnajpeaieeaflaaDoor.Sha
