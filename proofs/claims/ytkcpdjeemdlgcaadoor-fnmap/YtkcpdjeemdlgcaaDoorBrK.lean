/- Keys: their faults and their hashes. -/
import Derived.Test.YtkcpdjeemdlgcaaDoorMkA
import Derived.Test.YtkcpdjeemdlgcaaDoorBrP
import Derived.Test.YtkcpdjeemdlgcaaDoorTxf
namespace Go.Proofs.YtkcpdjeemdlgcaaDoor.Sha
open Go.ChangeShapes Go.WideShapes Go.ChangeAt Go.RowKit
set_option linter.unusedVariables false

theorem kh_size {k : ByteArray} (h : k.size ≤ 65536) : (kh k).size = 32 := hash_size (by rw [bytesI_len]; exact h)
theorem keyFault_any (s : ByteArray) (w : World) (hs : s.size ≤ maxLen) :
    Calls Tryd.prog 40 #[.string s] w fun e w' => e = .returned (.int .i64 (txC s.size 1 24)) ∧ w' = w := by
  have H := hide (textFault_any s 1 24 w hs)
  generalize txC s.size 1 24 = c at *
  go_enter Tryd.func40, Tryd.ntmps40
  go_wp2_with fail
  refine (unhide H).mono ?_
  rintro e w9 ⟨rfl, hw9⟩
  subst w9
  go_wp2_with fail
  go_ret
  exact ⟨rfl, rfl⟩
theorem okK_in (k : ByteArray) : okK k = inB k.size 1 24 := by
  unfold okK inB; congr 1 <;> (apply decide_eq_decide.2; omega)
theorem keyOKb_any (s : ByteArray) (w : World) (hs : s.size ≤ maxLen) :
    Calls Tryd.prog 53 #[.string s] w fun e w' => e = .returned (.bool (okK s)) ∧ w' = w := by
  rw [okK_in]
  unfold maxLen at hs
  have H := hide (within_any s.size 1 24 w)
  generalize inB s.size 1 24 = b at *
  go_enter Tryd.func53, Tryd.ntmps53
  go_wp2_with fail
  refine (unhide H).mono ?_
  rintro e w9 ⟨rfl, hw9⟩
  subst w9
  go_wp2_with fail
  go_ret
  exact ⟨rfl, rfl⟩
theorem l02Keyb_any (s : ByteArray) (w : World) (hs : s.size ≤ maxLen) :
    Calls Tryd.prog 43 #[.string s] w fun e w' => e = .returned (.bool (okK s)) ∧ w' = w := by
  rw [okK_in]
  unfold maxLen at hs
  by_cases h1 : 1 ≤ (s.size : Int)
  · have H : Hid (inB s.size 1 24 = decide ((s.size : Int) ≤ 24)) := hide (by simp [inB, h1])
    go_enter Tryd.func43, Tryd.ntmps43
    go_wp2_with fail
    go_ret
    exact ⟨ret_bool (unhide H).symm, rfl⟩
  · have H := hide (show inB s.size 1 24 = false by simp [inB]; omega)
    go_enter Tryd.func43, Tryd.ntmps43
    go_wp2_with fail
    go_ret
    exact ⟨ret_bool (unhide H).symm, rfl⟩
set_option maxRecDepth 100000 in
set_option maxHeartbeats 1000000 in
theorem l07Hash_any (k : ByteArray) (w : World) (hk : k.size ≤ 65536) :
    Calls Tryd.prog 59 #[.string k] w fun e w' => e = .returned (.string (kh k)) ∧ Below w.heap.size w w' := by
  obtain ⟨cap, w1, hcv, hB, hb1⟩ := str_bytesB k w (by unfold maxLen; omega)
  have hl : (bytesI k).length = k.size := bytesI_len k
  have HV : Hid (kh k = strOfNums (textL (stAt (bytesI k) (padLen (bytesI k).length / 64)))) := hide (hashV_yes (by omega))
  have hB' : Bytes w1 (.slice (some ⟨w.heap.size, 0, none⟩) (bytesI k).length cap) (bytesI k) := by rw [hl]; exact hB
  have HL := hide (l01Hash_any _ _ _ w1 hB' (by omega))
  rw [hl] at HL HV
  have B1 := hide hb1
  clear hb1 hB hB' hl
  go_enter Tryd.func59, Tryd.ntmps59
  go_wp2_with fail
  refine (unhide HL).mono ?_
  rintro e w3 ⟨rfl, hb3⟩
  have K := hide ((unhide B1).trans (hb3.mono (unhide B1).size))
  clear hb3
  rw [← unhide HV]
  go_wp2_with fail
  go_ret
  exact ⟨rfl, unhide K⟩
/-- What KeyHash answers. -/
def keyOut (k : ByteArray) : Value := if txC k.size 1 24 = 0 then .tuple #[.string (kh k), .int .i64 0] else .tuple #[.string ⟨#[]⟩, .int .i64 (txC k.size 1 24)]
set_option maxRecDepth 100000 in
set_option maxHeartbeats 1000000 in
theorem implKeyHash_any (k : ByteArray) (w : World) (hs : k.size ≤ 1048576) (ht : Tab w) :
    Calls Tryd.prog 13 #[.string k] w fun e w' => e = .returned (keyOut k) ∧ Below w.heap.size w w' := by
  have HF := hide (keyFault_any k w (by unfold maxLen; omega))
  have HO : Hid (keyOut k = if txC k.size 1 24 = 0 then .tuple #[.string (kh k), .int .i64 0] else .tuple #[.string ⟨#[]⟩, .int .i64 (txC k.size 1 24)]) := rfl
  obtain ⟨cap, w1, hcv, hB, hb1⟩ := str_bytesB k w (by unfold maxLen; omega)
  have HH := hide (implHash_any _ _ w1 hB (ht.below hb1).2 (ht.below hb1).1)
  have HV : Hid (kh k = hashV (bytesI k)) := rfl
  have B1 := hide hb1
  clear hb1 hB ht
  rcases txC_cases k.size 1 24 with hc | hc | hc
  · rw [if_pos hc] at HO
    rw [hc] at HF
    go_enter Tryd.func13, Tryd.ntmps13
    go_wp2_with fail
    refine (unhide HF).mono ?_
    rintro e w9 ⟨rfl, hw9⟩
    subst w9
    go_wp2_with fail
    refine (unhide HH).mono ?_
    rintro e w3 ⟨rfl, hb3⟩
    have K := hide ((unhide B1).trans (hb3.mono (unhide B1).size))
    clear hb3
    rw [← unhide HV]
    go_wp2_with fail
    go_ret2
    exact ⟨by rw [unhide HO]; rfl, unhide K⟩
  all_goals
    rw [if_neg (by omega), hc] at HO
    rw [hc] at HF
    go_enter Tryd.func13, Tryd.ntmps13
    go_wp2_with fail
    refine (unhide HF).mono ?_
    rintro e w9 ⟨rfl, hw9⟩
    subst w9
    go_wp2_with fail
    go_ret2
    exact ⟨by rw [unhide HO]; rfl, Below.refl _ _⟩
end Go.Proofs.YtkcpdjeemdlgcaaDoor.Sha
