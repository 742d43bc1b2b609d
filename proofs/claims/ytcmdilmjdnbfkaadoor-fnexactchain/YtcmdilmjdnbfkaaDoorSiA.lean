/- Secret parts of keys: impl's and the specification's. -/
import Derived.Test.YtcmdilmjdnbfkaaDoorOne
import Derived.Test.YtcmdilmjdnbfkaaDoorHf
namespace Go.Proofs.YtcmdilmjdnbfkaaDoor.Sha
open Go.ChangeShapes Go.WideShapes Go.ChangeAt Go.RowKit
set_option linter.unusedVariables false

/-- Where a chain of a key begins. -/
def secV (s : ByteArray) (i c : Nat) : ByteArray := hashV (4 :: (i : Int) :: (c : Int) :: bytesI s)
theorem secV_size {s : ByteArray} {i c : Nat} (hs : s.size = 32) : (secV s i c).size = 32 := hash_size (by simp [bytesI_len, hs])
set_option maxRecDepth 100000 in
set_option maxHeartbeats 1000000 in
theorem secretPart_any (s : ByteArray) (i c : Nat) (w : World) (hi : i < 256) (hc : c < 256) (hs : s.size = 32) (ht : Tab w) :
    Calls Tryd.prog 43 #[.string s, .int .i64 i, .int .i64 c] w fun e w' => e = .returned (.string (secV s i c)) ∧ Below w.heap.size w w' := by
  have HO1 := hide (oneByte_any i w hi)
  have HO2 := hide (fun wx => oneByte_any c wx hc)
  have hs1 : (strOfNums [(i : Int)]).size = 1 := strOfNums_size _
  have hs2 : (strOfNums [(c : Int)]).size = 1 := strOfNums_size _
  have hsz : (((⟨#[4]⟩ : ByteArray) ++ strOfNums [(i : Int)]) ++ strOfNums [(c : Int)] ++ s).size = 35 := by
    rw [ByteArray.size_append, ByteArray.size_append, ByteArray.size_append, hs1, hs2, hs]; rfl
  have HE : Hid (bytesI (((⟨#[4]⟩ : ByteArray) ++ strOfNums [(i : Int)]) ++ strOfNums [(c : Int)] ++ s) = 4 :: (i : Int) :: (c : Int) :: bytesI s) := hide (by
    rw [bytesI_append, bytesI_append, bytesI_append, bytes_nums1 _ hi, bytes_nums1 _ hc]
    rfl)
  have HT := hide ht
  have HST := hide (fun wx => str_bytesB (((⟨#[4]⟩ : ByteArray) ++ strOfNums [(i : Int)]) ++ strOfNums [(c : Int)] ++ s) wx (by rw [hsz]; unfold maxLen; omega))
  have HV : Hid (secV s i c = hashV (4 :: (i : Int) :: (c : Int) :: bytesI s)) := rfl
  clear ht
  generalize strOfNums [(i : Int)] = s1 at *
  generalize strOfNums [(c : Int)] = s2 at *
  go_enter Tryd.func43, Tryd.ntmps43
  go_wp2_with fail
  refine (unhide HO1).mono ?_
  rintro e w1 ⟨rfl, hb1⟩
  have B1 := hide hb1
  clear hb1
  go_wp2_with fail
  refine (unhide HO2 w1).mono ?_
  rintro e w2 ⟨rfl, hb2⟩
  obtain ⟨cap, w3, hcv, hB, hb3⟩ := unhide HST w2
  rw [unhide HE, hsz] at hB
  rw [hsz] at hcv
  have B2 := hide ((unhide B1).trans (hb2.mono (unhide B1).size))
  have B3 := hide ((unhide B2).trans (hb3.mono (unhide B2).size))
  have HH := hide (implHash_any _ _ w3 hB ((unhide HT).below (unhide B3)).2 ((unhide HT).below (unhide B3)).1)
  clear hb2 hb3 hB HST hsz
  go_wp2_with fail
  refine (unhide HH).mono ?_
  rintro e w4 ⟨rfl, hb4⟩
  have K := hide ((unhide B3).trans (hb4.mono (unhide B3).size))
  clear hb4
  rw [← unhide HV]
  go_wp2_with fail
  go_ret
  exact ⟨rfl, unhide K⟩
set_option maxRecDepth 100000 in
set_option maxHeartbeats 1000000 in
theorem l08Secret_any (s : ByteArray) (i c : Nat) (w : World) (hi : i < 256) (hc : c < 256) (hs : s.size = 32) :
    Calls Tryd.prog 41 #[.string s, .int .i64 i, .int .i64 c] w fun e w' => e = .returned (.string (secV s i c)) ∧ Below w.heap.size w w' := by
  obtain ⟨i0, hi0, hz0, hz1, hz2⟩ := info_parts info5
  have hq1 : IntKind.u8.wrap (i : Int) = (i : Int) := wraps_u8 _ (by omega) (by omega)
  have hq2 : IntKind.u8.wrap (c : Int) = (c : Int) := wraps_u8 _ (by omega) (by omega)
  have O0 : Hid ((w.alloc (.cells #[.int .u8 4, .int .u8 i, .int .u8 c] 5)).ownsRow w.heap.size 5 1 (.slice (some ⟨w.heap.size, 0, none⟩) 3 3) 3 [.int .u8 4, .int .u8 i, .int .u8 c]) := hide (own_lit (heap_new rfl) (Nat.le_refl _) rfl (by unfold maxLen; omega))
  have B0 := hide ((Below.refl w.heap.size w).alloc (Nat.le_refl _) (.cells #[.int .u8 4, .int .u8 i, .int .u8 c] 5))
  have hlen : Hid ((4 :: (i : Int) :: (c : Int) :: bytesI s).length = 3 + s.size) := hide (by simp [bytesI_len]; omega)
  have hV : Hid (secV s i c = strOfNums (textL (stAt (4 :: (i : Int) :: (c : Int) :: bytesI s) (padLen (4 :: (i : Int) :: (c : Int) :: bytesI s).length / 64)))) := hide (hashV_yes (by rw [unhide hlen]; omega))
  have hs2 : s.size ≤ 32 := by omega
  clear hs
  go_enter Tryd.func41, Tryd.ntmps41
  go_wp2_with (at_builtin; refine wpList_append_str _ rfl _ _ _ _ rfl w.heap.size 5 i0 Tryd.underlying98 Tryd.underlying9 hi0 hz0 hz1 hz2 _ 3 _ rfl (unhide O0) s rfl (by omega) (by omega) (by simp) ?_; intro g1 cap1 w1 hown1 hgrow1 hat1; have O1 := hide hown1; have B1 := hide ((unhide B0).grown hgrow1 (by simp) (fun r hr => ((unhide O0).lt r hr).1)); clear hown1 hgrow1 hat1)
  have hx : Bytes w1 (.slice (some ⟨g1, 0, none⟩) (4 :: (i : Int) :: (c : Int) :: bytesI s).length cap1) (4 :: (i : Int) :: (c : Int) :: bytesI s) := by
    refine OwnB.bytes (B := w.heap.size) ⟨?_, range_cons (by omega) (by omega) (range_cons (by omega) (by omega) (range_cons (by omega) (by omega) (bytesI_range s)))⟩
    have h := unhide O1
    rw [strCells_eq] at h
    rw [unhide hlen]
    simpa using h
  have HL := hide (l01Hash_any _ _ _ w1 hx (by rw [unhide hlen]; omega))
  rw [unhide hlen] at HL hV
  clear hx
  refine (unhide HL).mono ?_
  rintro e w3 ⟨rfl, hb3⟩
  have K := hide ((unhide B1).trans (hb3.mono (unhide B1).size))
  clear hb3
  rw [← unhide hV]
  go_wp2_with fail
  go_ret
  exact ⟨rfl, unhide K⟩
theorem isKeyIndex_any (i : Int) (w : World) :
    Calls Tryd.prog 42 #[.int .i64 i] w fun e w' => e = .returned (.bool (inB i 0 3)) ∧ w' = w := by
  have H := hide (within_any i 0 3 w)
  generalize inB i 0 3 = b at *
  go_enter Tryd.func42, Tryd.ntmps42
  go_wp2_with fail
  refine (unhide H).mono ?_
  rintro e w9 ⟨rfl, hw9⟩
  subst w9
  go_wp2_with fail
  go_ret
  exact ⟨rfl, rfl⟩
theorem l08Index_any (i : Int) (w : World) :
    Calls Tryd.prog 40 #[.int .i64 i] w fun e w' => e = .returned (.bool (inB i 0 3)) ∧ w' = w := by
  have H := hide (l01In_any i 0 3 w)
  generalize inB i 0 3 = b at *
  go_enter Tryd.func40, Tryd.ntmps40
  go_wp2_with fail
  refine (unhide H).mono ?_
  rintro e w9 ⟨rfl, hw9⟩
  subst w9
  go_wp2_with fail
  go_ret
  exact ⟨rfl, rfl⟩
theorem hfC_cases (s : ByteArray) : hfC s = 0 ∨ hfC s = 1 ∨ hfC s = 2 := by
  unfold hfC; split
  · exact .inr (.inr rfl)
  · split
    · exact .inl rfl
    · exact .inr (.inl rfl)
theorem hfC_zero {s : ByteArray} (h : hfC s = 0) : s.size = 32 := by
  unfold hfC at h; split at h
  · cases h
  · split at h
    · assumption
    · cases h
/-- What SecretPart answers. -/
def secOut (s : ByteArray) (i c : Int) : Value := if hfC s = 0 then (if inB i 0 3 = true ∧ inB c 0 17 = true then .tuple #[.string (secV s i.toNat c.toNat), .int .i64 0] else .tuple #[.string ⟨#[]⟩, .int .i64 4]) else .tuple #[.string ⟨#[]⟩, .int .i64 (hfC s)]
theorem secOut_form (s : ByteArray) (i c : Int) : ∃ x k, secOut s i c = .tuple #[.string x, .int .i64 k] := by
  unfold secOut; split
  · split
    · exact ⟨_, _, rfl⟩
    · exact ⟨_, _, rfl⟩
  · exact ⟨_, _, rfl⟩
theorem nat_of {i lo : Int} {hi : Int} (h : inB i 0 hi = true) : ∃ n : Nat, i = (n : Int) ∧ (n : Int) ≤ hi := by
  have := inB_iff.1 h
  exact ⟨i.toNat, by omega, by omega⟩
set_option maxRecDepth 100000 in
set_option maxHeartbeats 1000000 in
theorem implSecretPart_any (s : ByteArray) (i c : Int) (w : World) (hs : s.size ≤ maxLen) (ht : Tab w) :
    Calls Tryd.prog 17 #[.string s, .int .i64 i, .int .i64 c] w fun e w' => e = .returned (secOut s i c) ∧ Below w.heap.size w w' := by
  have HF := hide (hashFault_any s w hs)
  have HO : Hid (secOut s i c = if hfC s = 0 then (if inB i 0 3 = true ∧ inB c 0 17 = true then .tuple #[.string (secV s i.toNat c.toNat), .int .i64 0] else .tuple #[.string ⟨#[]⟩, .int .i64 4]) else .tuple #[.string ⟨#[]⟩, .int .i64 (hfC s)]) := rfl
  have HZ := hide (@hfC_zero s)
  have HX := hide (isKeyIndex_any i w)
  have HC := hide (within_any c 0 17 w)
  have HT := hide ht
  clear ht
  by_cases hc : hfC s = 0
  · rw [if_pos hc] at HO
    have h32 := unhide HZ hc
    rw [hc] at HF
    clear hc HZ
    cases h1 : inB i 0 3
    · rw [if_neg (by simp [h1])] at HO
      rw [h1] at HX
      clear h1
      go_enter Tryd.func17, Tryd.ntmps17
      go_wp2_with fail
      refine (unhide HF).mono ?_
      rintro e w9 ⟨rfl, hw9⟩
      subst w9
      go_wp2_with fail
      refine (unhide HX).mono ?_
      rintro e w9 ⟨rfl, hw9⟩
      subst w9
      go_wp2_with fail
      go_ret2
      exact ⟨by rw [unhide HO]; rfl, Below.refl _ _⟩
    · cases h2 : inB c 0 17
      · rw [if_neg (by simp [h2])] at HO
        rw [h1] at HX
        rw [h2] at HC
        clear h1 h2
        go_enter Tryd.func17, Tryd.ntmps17
        go_wp2_with fail
        refine (unhide HF).mono ?_
        rintro e w9 ⟨rfl, hw9⟩
        subst w9
        go_wp2_with fail
        refine (unhide HX).mono ?_
        rintro e w9 ⟨rfl, hw9⟩
        subst w9
        go_wp2_with fail
        refine (unhide HC).mono ?_
        rintro e w9 ⟨rfl, hw9⟩
        subst w9
        go_wp2_with fail
        go_ret2
        exact ⟨by rw [unhide HO]; rfl, Below.refl _ _⟩
      · rw [if_pos ⟨h1, h2⟩] at HO
        rw [h1] at HX
        rw [h2] at HC
        obtain ⟨n, rfl, hn⟩ := nat_of (lo := 0) h1
        obtain ⟨m, rfl, hm⟩ := nat_of (lo := 0) h2
        rw [Int.toNat_natCast, Int.toNat_natCast] at HO
        have HS := hide (secretPart_any s n m w (by omega) (by omega) h32 (unhide HT))
        clear h1 h2
        go_enter Tryd.func17, Tryd.ntmps17
        go_wp2_with fail
        refine (unhide HF).mono ?_
        rintro e w9 ⟨rfl, hw9⟩
        subst w9
        go_wp2_with fail
        refine (unhide HX).mono ?_
        rintro e w9 ⟨rfl, hw9⟩
        subst w9
        go_wp2_with fail
        refine (unhide HC).mono ?_
        rintro e w9 ⟨rfl, hw9⟩
        subst w9
        go_wp2_with fail
        refine (unhide HS).mono ?_
        rintro e w3 ⟨rfl, hb3⟩
        have K := hide hb3
        clear hb3
        go_wp2_with fail
        go_ret2
        exact ⟨by rw [unhide HO]; rfl, unhide K⟩
  · rw [if_neg hc] at HO
    generalize hfC s = k at *
    have hk : (k == 0) = false := by simpa using hc
    go_enter Tryd.func17, Tryd.ntmps17
    go_wp2_with fail
    refine (unhide HF).mono ?_
    rintro e w9 ⟨rfl, hw9⟩
    subst w9
    go_wp2_with fail
    go_ret2
    exact ⟨by rw [unhide HO]; rfl, Below.refl _ _⟩
set_option maxRecDepth 100000 in
set_option maxHeartbeats 1000000 in
theorem specSecretPart_any (s : ByteArray) (i c : Int) (w : World) (hs : s.size ≤ 1048576) :
    Calls Tryd.prog 16 #[.string s, .int .i64 i, .int .i64 c] w fun e w' => e = .returned (secOut s i c) ∧ Below w.heap.size w w' := by
  have HX := hide (l08Index_any i w)
  have HC := hide (l01In_any c 0 17 w)
  by_cases hs1 : 65536 < s.size
  · have HO : Hid (secOut s i c = .tuple #[.string ⟨#[]⟩, .int .i64 2]) := hide (by
      have e : hfC s = 2 := by unfold hfC; rw [if_pos hs1]
      unfold secOut; rw [e]; rfl)
    go_enter Tryd.func16, Tryd.ntmps16
    go_wp2_with fail
    go_ret2
    exact ⟨by rw [unhide HO]; rfl, Below.refl _ _⟩
  by_cases hs2 : s.size = 32
  · have HO : Hid (secOut s i c = if inB i 0 3 = true ∧ inB c 0 17 = true then .tuple #[.string (secV s i.toNat c.toNat), .int .i64 0] else .tuple #[.string ⟨#[]⟩, .int .i64 4]) := hide (by
      have e : hfC s = 0 := by unfold hfC; rw [if_neg hs1, if_pos hs2]
      unfold secOut; rw [if_pos e])
    cases h1 : inB i 0 3
    · rw [if_neg (by simp [h1])] at HO
      rw [h1] at HX
      clear h1
      go_enter Tryd.func16, Tryd.ntmps16
      go_wp2_with fail
      refine (unhide HX).mono ?_
      rintro e w9 ⟨rfl, hw9⟩
      subst w9
      go_wp2_with fail
      go_ret2
      exact ⟨by rw [unhide HO]; rfl, Below.refl _ _⟩
    · cases h2 : inB c 0 17
      · rw [if_neg (by simp [h2])] at HO
        rw [h1] at HX
        rw [h2] at HC
        clear h1 h2
        go_enter Tryd.func16, Tryd.ntmps16
        go_wp2_with fail
        refine (unhide HX).mono ?_
        rintro e w9 ⟨rfl, hw9⟩
        subst w9
        go_wp2_with fail
        refine (unhide HC).mono ?_
        rintro e w9 ⟨rfl, hw9⟩
        subst w9
        go_wp2_with fail
        go_ret2
        exact ⟨by rw [unhide HO]; rfl, Below.refl _ _⟩
      · rw [if_pos ⟨h1, h2⟩] at HO
        rw [h1] at HX
        rw [h2] at HC
        obtain ⟨n, rfl, hn⟩ := nat_of (lo := 0) h1
        obtain ⟨m, rfl, hm⟩ := nat_of (lo := 0) h2
        rw [Int.toNat_natCast, Int.toNat_natCast] at HO
        have HS := hide (l08Secret_any s n m w (by omega) (by omega) hs2)
        clear h1 h2
        go_enter Tryd.func16, Tryd.ntmps16
        go_wp2_with fail
        refine (unhide HX).mono ?_
        rintro e w9 ⟨rfl, hw9⟩
        subst w9
        go_wp2_with fail
        refine (unhide HC).mono ?_
        rintro e w9 ⟨rfl, hw9⟩
        subst w9
        go_wp2_with fail
        refine (unhide HS).mono ?_
        rintro e w3 ⟨rfl, hb3⟩
        have K := hide hb3
        clear hb3
        go_wp2_with fail
        go_ret2
        exact ⟨by rw [unhide HO]; rfl, unhide K⟩
  · have HO : Hid (secOut s i c = .tuple #[.string ⟨#[]⟩, .int .i64 1]) := hide (by
      have e : hfC s = 1 := by unfold hfC; rw [if_neg hs1, if_neg hs2]
      unfold secOut; rw [e]; rfl)
    have hs3 : (s.size : Int) ≠ 32 := by omega
    go_enter Tryd.func16, Tryd.ntmps16
    go_wp2_with fail
    go_ret2
    exact ⟨by rw [unhide HO]; rfl, Below.refl _ _⟩
end Go.Proofs.YtcmdilmjdnbfkaaDoor.Sha
