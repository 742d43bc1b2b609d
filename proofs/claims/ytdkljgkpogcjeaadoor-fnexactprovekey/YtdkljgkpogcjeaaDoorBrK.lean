/- Keys: their faults and their hashes. -/
import Derived.Test.YtdkljgkpogcjeaaDoorMkA
import Derived.Test.YtdkljgkpogcjeaaDoorBrP
namespace Go.Proofs.YtdkljgkpogcjeaaDoor.Sha
open Go.ChangeShapes Go.WideShapes Go.ChangeAt Go.RowKit
set_option linter.unusedVariables false

theorem kh_size {k : ByteArray} (h : k.size ≤ 65536) : (kh k).size = 32 := hash_size (by rw [bytesI_len]; exact h)
/-- The code of a text of least to most bytes. -/
def txC (n : Nat) (least most : Int) : Int := if 65536 < n then 2 else if inB n least most = true then 0 else 1
theorem txC_cases (n : Nat) (least most : Int) : txC n least most = 0 ∨ txC n least most = 1 ∨ txC n least most = 2 := by
  unfold txC; split <;> (try split) <;> simp
set_option maxRecDepth 100000 in
theorem textFault_any (s : ByteArray) (least most : Int) (w : World) (hs : s.size ≤ maxLen) :
    Calls Tryd.prog 58 #[.string s, .int .i64 least, .int .i64 most] w fun e w' => e = .returned (.int .i64 (txC s.size least most)) ∧ w' = w := by
  unfold maxLen at hs
  by_cases h1 : 65536 < s.size
  · have H := hide (show txC s.size least most = 2 by unfold txC; rw [if_pos h1])
    go_enter Tryd.func58, Tryd.ntmps58
    go_wp2_with fail
    go_ret
    exact ⟨ret_int (unhide H).symm, rfl⟩
  · have H : Hid (txC s.size least most = if inB s.size least most = true then 0 else 1) := hide (by unfold txC; rw [if_neg h1])
    have HW := hide (within_any s.size least most w)
    generalize inB s.size least most = b at *
    go_enter Tryd.func58, Tryd.ntmps58
    go_wp2_with fail
    refine (unhide HW).mono ?_
    rintro e w9 ⟨rfl, hw9⟩
    subst w9
    cases b
    · go_wp2_with fail
      go_ret
      exact ⟨ret_int (unhide H).symm, rfl⟩
    · go_wp2_with fail
      go_ret
      exact ⟨ret_int (unhide H).symm, rfl⟩
theorem keyFault_any (s : ByteArray) (w : World) (hs : s.size ≤ maxLen) :
    Calls Tryd.prog 45 #[.string s] w fun e w' => e = .returned (.int .i64 (txC s.size 1 24)) ∧ w' = w := by
  have H := hide (textFault_any s 1 24 w hs)
  generalize txC s.size 1 24 = c at *
  go_enter Tryd.func45, Tryd.ntmps45
  go_wp2_with fail
  refine (unhide H).mono ?_
  rintro e w9 ⟨rfl, hw9⟩
  subst w9
  go_wp2_with fail
  go_ret
  exact ⟨rfl, rfl⟩
theorem okK_in (k : ByteArray) : okK k = inB k.size 1 24 := by
  unfold okK inB; congr 1 <;> (apply decide_eq_decide.2; omega)
theorem keyOKb_any (s : ByteArray) (w : World) (hs : s.size ≤ maxLen) :
    Calls Tryd.prog 92 #[.string s] w fun e w' => e = .returned (.bool (okK s)) ∧ w' = w := by
  rw [okK_in]
  unfold maxLen at hs
  have H := hide (within_any s.size 1 24 w)
  generalize inB s.size 1 24 = b at *
  go_enter Tryd.func92, Tryd.ntmps92
  go_wp2_with fail
  refine (unhide H).mono ?_
  rintro e w9 ⟨rfl, hw9⟩
  subst w9
  go_wp2_with fail
  go_ret
  exact ⟨rfl, rfl⟩
theorem l02Keyb_any (s : ByteArray) (w : World) (hs : s.size ≤ maxLen) :
    Calls Tryd.prog 43 #[.string s] w fun e w' => e = .returned (.bool (okK s)) ∧ w' = w := by
  rw [okK_in]
  unfold maxLen at hs
  by_cases h1 : 1 ≤ (s.size : Int)
  · have H : Hid (inB s.size 1 24 = decide ((s.size : Int) ≤ 24)) := hide (by simp [inB, h1])
    go_enter Tryd.func43, Tryd.ntmps43
    go_wp2_with fail
    go_ret
    exact ⟨ret_bool (unhide H).symm, rfl⟩
  · have H := hide (show inB s.size 1 24 = false by simp [inB]; omega)
    go_enter Tryd.func43, Tryd.ntmps43
    go_wp2_with fail
    go_ret
    exact ⟨ret_bool (unhide H).symm, rfl⟩
set_option maxRecDepth 100000 in
set_option maxHeartbeats 1000000 in
theorem l07Hash_any (k : ByteArray) (w : World) (hk : k.size ≤ 65536) :
    Calls Tryd.prog 44 #[.string k] w fun e w' => e = .returned (.string (kh k)) ∧ Below w.heap.size w w' := by
  obtain ⟨cap, w1, hcv, hB, hb1⟩ := str_bytesB k w (by unfold maxLen; omega)
  have hl : (bytesI k).length = k.size := bytesI_len k
  have HV : Hid (kh k = strOfNums (textL (stAt (bytesI k) (padLen (bytesI k).length / 64)))) := hide (hashV_yes (by omega))
  have hB' : Bytes w1 (.slice (some ⟨w.heap.size, 0, none⟩) (bytesI k).length cap) (bytesI k) := by rw [hl]; exact hB
  have HL := hide (l01Hash_any _ _ _ w1 hB' (by omega))
  rw [hl] at HL HV
  have B1 := hide hb1
  clear hb1 hB hB' hl
  go_enter Tryd.func44, Tryd.ntmps44
  go_wp2_with fail
  refine (unhide HL).mono ?_
  rintro e w3 ⟨rfl, hb3⟩
  have K := hide ((unhide B1).trans (hb3.mono (unhide B1).size))
  clear hb3
  rw [← unhide HV]
  go_wp2_with fail
  go_ret
  exact ⟨rfl, unhide K⟩
/-- What KeyHash answers. -/
def keyOut (k : ByteArray) : Value := if txC k.size 1 24 = 0 then .tuple #[.string (kh k), .int .i64 0] else .tuple #[.string ⟨#[]⟩, .int .i64 (txC k.size 1 24)]
theorem txC_key {n : Nat} (h : txC n 1 24 = 0) : 1 ≤ n ∧ n ≤ 24 := by
  unfold txC at h
  split at h
  · omega
  · split at h
    · rename_i h2; have := inB_iff.1 h2; omega
    · omega
set_option maxRecDepth 100000 in
set_option maxHeartbeats 1000000 in
theorem implKeyHash_any (k : ByteArray) (w : World) (hs : k.size ≤ 1048576) (ht : Tab w) :
    Calls Tryd.prog 13 #[.string k] w fun e w' => e = .returned (keyOut k) ∧ Below w.heap.size w w' := by
  have HF := hide (keyFault_any k w (by unfold maxLen; omega))
  have HO : Hid (keyOut k = if txC k.size 1 24 = 0 then .tuple #[.string (kh k), .int .i64 0] else .tuple #[.string ⟨#[]⟩, .int .i64 (txC k.size 1 24)]) := rfl
  obtain ⟨cap, w1, hcv, hB, hb1⟩ := str_bytesB k w (by unfold maxLen; omega)
  have HH := hide (implHash_any _ _ w1 hB (ht.below hb1).2 (ht.below hb1).1)
  have HV : Hid (kh k = hashV (bytesI k)) := rfl
  have B1 := hide hb1
  clear hb1 hB ht
  rcases txC_cases k.size 1 24 with hc | hc | hc
  · rw [if_pos hc] at HO
    rw [hc] at HF
    go_enter Tryd.func13, Tryd.ntmps13
    go_wp2_with fail
    refine (unhide HF).mono ?_
    rintro e w9 ⟨rfl, hw9⟩
    subst w9
    go_wp2_with fail
    refine (unhide HH).mono ?_
    rintro e w3 ⟨rfl, hb3⟩
    have K := hide ((unhide B1).trans (hb3.mono (unhide B1).size))
    clear hb3
    rw [← unhide HV]
    go_wp2_with fail
    go_ret2
    exact ⟨by rw [unhide HO]; rfl, unhide K⟩
  all_goals
    rw [if_neg (by omega), hc] at HO
    rw [hc] at HF
    go_enter Tryd.func13, Tryd.ntmps13
    go_wp2_with fail
    refine (unhide HF).mono ?_
    rintro e w9 ⟨rfl, hw9⟩
    subst w9
    go_wp2_with fail
    go_ret2
    exact ⟨by rw [unhide HO]; rfl, Below.refl _ _⟩
set_option maxRecDepth 100000 in
set_option maxHeartbeats 1000000 in
theorem specKeyHash_any (k : ByteArray) (w : World) (hs : k.size ≤ 1048576) :
    Calls Tryd.prog 12 #[.string k] w fun e w' => e = .returned (keyOut k) ∧ Below w.heap.size w w' := by
  by_cases h1 : 65536 < k.size
  · have HO : Hid (keyOut k = .tuple #[.string ⟨#[]⟩, .int .i64 2]) := hide (by
      have e : txC k.size 1 24 = 2 := by unfold txC; rw [if_pos h1]
      unfold keyOut; rw [e]; rfl)
    go_enter Tryd.func12, Tryd.ntmps12
    go_wp2_with fail
    go_ret2
    exact ⟨by rw [unhide HO]; rfl, Below.refl _ _⟩
  · have HK := hide (l02Keyb_any k w (by unfold maxLen; omega))
    have HH := hide (l07Hash_any k w (by omega))
    have HO : Hid (keyOut k = if okK k = true then .tuple #[.string (kh k), .int .i64 0] else .tuple #[.string ⟨#[]⟩, .int .i64 1]) := hide (by
      have e : txC k.size 1 24 = if okK k = true then 0 else 1 := by unfold txC; rw [if_neg h1, okK_in]
      unfold keyOut
      rw [e]
      cases okK k <;> rfl)
    generalize okK k = b at *
    go_enter Tryd.func12, Tryd.ntmps12
    go_wp2_with fail
    refine (unhide HK).mono ?_
    rintro e w9 ⟨rfl, hw9⟩
    subst w9
    cases b
    · rw [if_neg (by simp)] at HO
      go_wp2_with fail
      go_ret2
      exact ⟨by rw [unhide HO]; rfl, Below.refl _ _⟩
    · rw [if_pos rfl] at HO
      go_wp2_with fail
      refine (unhide HH).mono ?_
      rintro e w3 ⟨rfl, hb3⟩
      have K := hide hb3
      clear hb3
      go_wp2_with fail
      go_ret2
      exact ⟨by rw [unhide HO]; rfl, unhide K⟩
end Go.Proofs.YtdkljgkpogcjeaaDoor.Sha
