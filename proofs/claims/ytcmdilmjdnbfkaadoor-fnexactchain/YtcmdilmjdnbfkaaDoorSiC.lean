/- Chains: impl's and the specification's. -/
import Derived.Test.YtcmdilmjdnbfkaaDoorSiA
namespace Go.Proofs.YtcmdilmjdnbfkaaDoor.Sha
open Go.ChangeShapes Go.WideShapes Go.ChangeAt Go.RowKit
set_option linter.unusedVariables false

/-- One step of a chain. -/
def stepV (i : Nat) (h : ByteArray) : ByteArray := hashV (3 :: (i : Int) :: bytesI h)
/-- What a hash that stands at f is n steps on. -/
def chV (h : ByteArray) (f : Nat) : Nat → ByteArray
  | 0 => h
  | n + 1 => stepV (f + n) (chV h f n)
theorem stepV_size {h : ByteArray} (i : Nat) (hs : h.size = 32) : (stepV i h).size = 32 := hash_size (by simp [bytesI_len, hs])
theorem chV_size {h : ByteArray} (hs : h.size = 32) (f n : Nat) : (chV h f n).size = 32 := by
  induction n with
  | zero => exact hs
  | succ n ih => exact stepV_size _ ih
set_option maxRecDepth 100000 in
set_option maxHeartbeats 1000000 in
theorem end_any (h : ByteArray) (f t : Nat) (w : World) (hs : h.size = 32) (hft : f ≤ t) (ht15 : t ≤ 15) (ht : Tab w) :
    Calls Tryd.prog 39 #[.agg #[.string h, .int .i64 f, .int .i64 t]] w fun e w' => e = .returned (.string (chV h f (t - f))) ∧ Below w.heap.size w w' := by
  have B0 := hide ((Below.refl w.heap.size w).alloc (Nat.le_refl _) (.cells #[.string h, .int .i64 f, .int .i64 t] 59))
  have X0 := hide (Blk.new w #[.string h, .int .i64 f, .int .i64 t] 59 w.heap.size rfl)
  have HT := hide ht
  have HS := hide (fun n => chV_size hs f n)
  have HC0 : Hid (chV h f 0 = h) := rfl
  have HCS : Hid (∀ n, chV h f (n + 1) = hashV (3 :: ((f + n : Nat) : Int) :: bytesI (chV h f n))) := fun n => rfl
  clear ht hs
  go_enter Tryd.func39, Tryd.ntmps39
  go_wp2_with fail
  generalize w.alloc (.cells #[.string h, .int .i64 f, .int .i64 t] 59) = w0 at *
  go_loopw [3, 4] (fun s i wr => ∃ j : Nat, f ≤ j ∧ j ≤ t ∧ s = .string (chV h f (j - f)) ∧ i = .int .i64 j ∧ Below w.heap.size w wr ∧ Blk wr w.heap.size [.string h, .int .i64 f, .int .i64 t]) (fun _ i _ => t - (intOf i).toNat)
  case atStart => exact ⟨f, Nat.le_refl _, hft, by rw [Nat.sub_self]; rfl, rfl, unhide B0, unhide X0⟩
  case round =>
    obtain ⟨j, hj1, hj2, rfl, rfl, hbw, hX⟩ := hrel
    have x2 := hX.cell 2 rfl
    have BW := hide hbw
    have XX := hide hX
    clear hX hbw B0 X0
    by_cases hlt : j < t
    · have p1 : (j : Int) < (t : Int) := by omega
      have hsz0 := unhide HS (j - f)
      have HN : Hid (chV h f (j + 1 - f) = hashV (3 :: (j : Int) :: bytesI (chV h f (j - f)))) := hide (by
        have := unhide HCS (j - f)
        rw [show f + (j - f) = j by omega, show j - f + 1 = j + 1 - f by omega] at this
        exact this)
      generalize chV h f (j - f) = c at *
      have HOB := hide (fun wx => oneByte_any j wx (by omega))
      have hs1 : (strOfNums [(j : Int)]).size = 1 := strOfNums_size _
      have hsz : ((⟨#[3]⟩ : ByteArray) ++ strOfNums [(j : Int)] ++ c).size = 34 := by
        rw [ByteArray.size_append, ByteArray.size_append, hs1, hsz0]; rfl
      have HE : Hid (bytesI ((⟨#[3]⟩ : ByteArray) ++ strOfNums [(j : Int)] ++ c) = 3 :: (j : Int) :: bytesI c) := hide (by
        rw [bytesI_append, bytesI_append, bytes_nums1 _ (by omega)]
        rfl)
      have HST := hide (fun wx => str_bytesB ((⟨#[3]⟩ : ByteArray) ++ strOfNums [(j : Int)] ++ c) wx (by rw [hsz]; unfold maxLen; omega))
      generalize strOfNums [(j : Int)] = s1 at *
      go_wp2_with fail
      refine (unhide HOB _).mono ?_
      rintro e w1 ⟨rfl, hb1⟩
      obtain ⟨cap, w2, hcv, hB, hb2⟩ := unhide HST w1
      rw [unhide HE, hsz] at hB
      rw [hsz] at hcv
      have hb12 := hb1.trans (hb2.mono hb1.size)
      have B2 := hide ((unhide BW).trans (hb12.mono (unhide BW).size))
      have X2 := hide ((unhide XX).below hb12)
      have HH := hide (implHash_any _ _ w2 hB ((unhide HT).below (unhide B2)).2 ((unhide HT).below (unhide B2)).1)
      clear hb1 hb2 hb12 hB HST hsz XX BW x2
      go_wp2_with fail
      refine (unhide HH).mono ?_
      rintro e w3 ⟨rfl, hb3⟩
      have B3 := hide ((unhide B2).trans (hb3.mono (unhide B2).size))
      have X3 := hide ((unhide X2).below hb3)
      clear hb3 hcv
      rw [← unhide HN]
      go_wp2_with fail
      refine ⟨⟨j + 1, by omega, by omega, rfl, by go_num, unhide B3, unhide X3⟩, ?_⟩
      simp [intOf]; omega
    · obtain rfl : j = t := by omega
      generalize hcc : chV h f (j - f) = c at *
      have HCC := hide hcc
      clear hcc
      go_wp2_with fail
      go_ret
      exact ⟨by rw [unhide HCC]; rfl, unhide BW⟩
set_option maxRecDepth 100000 in
set_option maxHeartbeats 1000000 in
theorem l08Chain_any (h : ByteArray) (f n : Nat) (w : World) (hs : h.size = 32) (hft : f + n ≤ 15) :
    Calls Tryd.prog 36 #[.string h, .int .i64 f, .int .i64 n] w fun e w' => e = .returned (.string (chV h f n)) ∧ Below w.heap.size w w' := by
  obtain ⟨i0, hi0, hz0, hz1, hz2⟩ := info_parts info5
  have HS := hide (fun n => chV_size hs f n)
  have HCS : Hid (∀ n, chV h f (n + 1) = hashV (3 :: ((f + n : Nat) : Int) :: bytesI (chV h f n))) := fun n => rfl
  clear hs
  go_enter Tryd.func36, Tryd.ntmps36
  go_wp2_with fail
  go_loopw [0, 7] (fun s i wr => ∃ j : Nat, j ≤ n ∧ s = .string (chV h f j) ∧ i = .int .i64 j ∧ Below w.heap.size w wr) (fun _ i _ => n - (intOf i).toNat)
  case atStart => exact ⟨0, Nat.zero_le _, rfl, rfl, Below.refl _ _⟩
  case round =>
    obtain ⟨j, hj, rfl, rfl, hbw⟩ := hrel
    have BW := hide hbw
    clear hbw
    by_cases hlt : j < n
    · have p1 : (j : Int) < (n : Int) := by omega
      have hsz0 : Hid ((chV h f j).size = 32) := hide (unhide HS j)
      have HN := hide (unhide HCS j)
      generalize chV h f j = c at *
      have hc2 : c.size ≤ 32 := by have := unhide hsz0; omega
      have hq0 : (f : Int) + (j : Int) = ((f + j : Nat) : Int) := by omega
      have hq : IntKind.u8.wrap ((f : Int) + (j : Int)) = ((f + j : Nat) : Int) := by rw [hq0]; exact wraps_u8 _ (by omega) (by omega)
      have hz9 : Hid (0 ≤ ((f + j : Nat) : Int) ∧ ((f + j : Nat) : Int) ≤ 255) := hide (by omega)
      generalize ((f + j : Nat) : Int) = z at *
      clear hq0
      rename_i wr _
      have O0 : Hid ((wr.alloc (.cells #[.int .u8 3, .int .u8 z] 5)).ownsRow wr.heap.size 5 1 (.slice (some ⟨wr.heap.size, 0, none⟩) 2 2) 2 [.int .u8 3, .int .u8 z]) := hide (own_lit (heap_new rfl) (Nat.le_refl _) rfl (by unfold maxLen; omega))
      have B0 := hide ((Below.refl wr.heap.size wr).alloc (Nat.le_refl _) (.cells #[.int .u8 3, .int .u8 z] 5))
      have hlen : Hid ((3 :: z :: bytesI c).length = 2 + c.size) := hide (by simp [bytesI_len]; omega)
      have hV : Hid (hashV (3 :: z :: bytesI c) = strOfNums (textL (stAt (3 :: z :: bytesI c) (padLen (3 :: z :: bytesI c).length / 64)))) := hide (hashV_yes (by rw [unhide hlen]; omega))
      go_wp2_with (at_builtin; refine wpList_append_str _ rfl _ _ _ _ rfl wr.heap.size 5 i0 Tryd.underlying98 Tryd.underlying9 hi0 hz0 hz1 hz2 _ 2 _ rfl (unhide O0) c rfl (by omega) (by omega) (by simp) ?_; intro g1 cap1 w1 hown1 hgrow1 hat1; have O1 := hide hown1; have B1 := hide ((unhide B0).grown hgrow1 (by simp) (fun r hr => ((unhide O0).lt r hr).1)); clear hown1 hgrow1 hat1)
      have hx : Bytes w1 (.slice (some ⟨g1, 0, none⟩) (3 :: z :: bytesI c).length cap1) (3 :: z :: bytesI c) := by
        refine OwnB.bytes (B := wr.heap.size) ⟨?_, range_cons (by omega) (by omega) (range_cons (unhide hz9).1 (unhide hz9).2 (bytesI_range c))⟩
        have h := unhide O1
        rw [strCells_eq] at h
        rw [unhide hlen]
        simpa using h
      have HL := hide (l01Hash_any _ _ _ w1 hx (by rw [unhide hlen]; omega))
      rw [unhide hlen] at HL hV
      clear hx
      refine (unhide HL).mono ?_
      rintro e w3 ⟨rfl, hb3⟩
      have K := hide ((unhide BW).trans (((unhide B1).trans (hb3.mono (unhide B1).size)).mono (unhide BW).size))
      clear hb3
      rw [← unhide hV, ← unhide HN]
      go_wp2_with fail
      refine ⟨⟨j + 1, by omega, rfl, by go_num, unhide K⟩, ?_⟩
      simp [intOf]; omega
    · obtain rfl : j = n := by omega
      generalize hcc : chV h f j = c at *
      have HCC := hide hcc
      clear hcc
      go_wp2_with fail
      go_ret
      exact ⟨by rw [unhide HCC]; rfl, unhide BW⟩
/-- What Chain answers. -/
def chOut (s : ByteArray) (f n : Int) : Value := if hfC s = 0 then (if inB f 0 15 = true ∧ inB n 0 (15 - f) = true then .tuple #[.string (chV s f.toNat n.toNat), .int .i64 0] else .tuple #[.string ⟨#[]⟩, .int .i64 4]) else .tuple #[.string ⟨#[]⟩, .int .i64 (hfC s)]
theorem chOut_form (s : ByteArray) (i c : Int) : ∃ x k, chOut s i c = .tuple #[.string x, .int .i64 k] := by
  unfold chOut; split
  · split
    · exact ⟨_, _, rfl⟩
    · exact ⟨_, _, rfl⟩
  · exact ⟨_, _, rfl⟩
set_option maxRecDepth 100000 in
set_option maxHeartbeats 1000000 in
theorem implChain_any (s : ByteArray) (f n : Int) (w : World) (hs : s.size ≤ maxLen) (ht : Tab w) :
    Calls Tryd.prog 15 #[.string s, .int .i64 f, .int .i64 n] w fun e w' => e = .returned (chOut s f n) ∧ Below w.heap.size w w' := by
  have HF := hide (hashFault_any s w hs)
  have HO : Hid (chOut s f n = if hfC s = 0 then (if inB f 0 15 = true ∧ inB n 0 (15 - f) = true then .tuple #[.string (chV s f.toNat n.toNat), .int .i64 0] else .tuple #[.string ⟨#[]⟩, .int .i64 4]) else .tuple #[.string ⟨#[]⟩, .int .i64 (hfC s)]) := rfl
  have HZ := hide (@hfC_zero s)
  have HX := hide (within_any f 0 15 w)
  have HC := hide (within_any n 0 (15 - f) w)
  have HT := hide ht
  clear ht
  by_cases hc : hfC s = 0
  · rw [if_pos hc] at HO
    have h32 := unhide HZ hc
    rw [hc] at HF
    clear hc HZ
    cases h1 : inB f 0 15
    · rw [if_neg (by simp [h1])] at HO
      rw [h1] at HX
      clear h1
      go_enter Tryd.func15, Tryd.ntmps15
      go_wp2_with fail
      refine (unhide HF).mono ?_
      rintro e w9 ⟨rfl, hw9⟩
      subst w9
      go_wp2_with fail
      refine (unhide HX).mono ?_
      rintro e w9 ⟨rfl, hw9⟩
      subst w9
      go_wp2_with fail
      go_ret2
      exact ⟨by rw [unhide HO]; rfl, Below.refl _ _⟩
    · obtain ⟨m, rfl, hm⟩ := nat_of (lo := 0) h1
      cases h2 : inB n 0 (15 - (m : Int))
      · rw [if_neg (by simp [h2])] at HO
        rw [h1] at HX
        rw [h2] at HC
        clear h1 h2
        go_enter Tryd.func15, Tryd.ntmps15
        go_wp2_with fail
        refine (unhide HF).mono ?_
        rintro e w9 ⟨rfl, hw9⟩
        subst w9
        go_wp2_with fail
        refine (unhide HX).mono ?_
        rintro e w9 ⟨rfl, hw9⟩
        subst w9
        go_wp2_with fail
        refine (unhide HC).mono ?_
        rintro e w9 ⟨rfl, hw9⟩
        subst w9
        go_wp2_with fail
        go_ret2
        exact ⟨by rw [unhide HO]; rfl, Below.refl _ _⟩
      · rw [if_pos ⟨h1, h2⟩] at HO
        rw [h1] at HX
        rw [h2] at HC
        obtain ⟨k, rfl, hk⟩ := nat_of (lo := 0) h2
        rw [Int.toNat_natCast, Int.toNat_natCast] at HO
        have HS := hide (end_any s m (m + k) w h32 (by omega) (by omega) (unhide HT))
        rw [show m + k - m = k by omega] at HS
        have hsum : (m : Int) + (k : Int) = ((m + k : Nat) : Int) := by omega
        rw [← hsum] at HS
        clear h1 h2 hsum
        go_enter Tryd.func15, Tryd.ntmps15
        go_wp2_with fail
        refine (unhide HF).mono ?_
        rintro e w9 ⟨rfl, hw9⟩
        subst w9
        go_wp2_with fail
        refine (unhide HX).mono ?_
        rintro e w9 ⟨rfl, hw9⟩
        subst w9
        go_wp2_with fail
        refine (unhide HC).mono ?_
        rintro e w9 ⟨rfl, hw9⟩
        subst w9
        go_wp2_with fail
        refine (unhide HS).mono ?_
        rintro e w3 ⟨rfl, hb3⟩
        have K := hide hb3
        clear hb3
        go_wp2_with fail
        go_ret2
        exact ⟨by rw [unhide HO]; rfl, unhide K⟩
  · rw [if_neg hc] at HO
    generalize hfC s = k at *
    have hk : (k == 0) = false := by simpa using hc
    go_enter Tryd.func15, Tryd.ntmps15
    go_wp2_with fail
    refine (unhide HF).mono ?_
    rintro e w9 ⟨rfl, hw9⟩
    subst w9
    go_wp2_with fail
    go_ret2
    exact ⟨by rw [unhide HO]; rfl, Below.refl _ _⟩
set_option maxRecDepth 100000 in
set_option maxHeartbeats 1000000 in
theorem specChain_any (s : ByteArray) (f n : Int) (w : World) (hs : s.size ≤ 1048576) :
    Calls Tryd.prog 14 #[.string s, .int .i64 f, .int .i64 n] w fun e w' => e = .returned (chOut s f n) ∧ Below w.heap.size w w' := by
  have HX := hide (l01In_any f 0 15 w)
  have HC := hide (l01In_any n 0 (15 - f) w)
  by_cases hs1 : 65536 < s.size
  · have HO : Hid (chOut s f n = .tuple #[.string ⟨#[]⟩, .int .i64 2]) := hide (by
      have e : hfC s = 2 := by unfold hfC; rw [if_pos hs1]
      unfold chOut; rw [e]; rfl)
    go_enter Tryd.func14, Tryd.ntmps14
    go_wp2_with fail
    go_ret2
    exact ⟨by rw [unhide HO]; rfl, Below.refl _ _⟩
  by_cases hs2 : s.size = 32
  · have HO : Hid (chOut s f n = if inB f 0 15 = true ∧ inB n 0 (15 - f) = true then .tuple #[.string (chV s f.toNat n.toNat), .int .i64 0] else .tuple #[.string ⟨#[]⟩, .int .i64 4]) := hide (by
      have e : hfC s = 0 := by unfold hfC; rw [if_neg hs1, if_pos hs2]
      unfold chOut; rw [if_pos e])
    cases h1 : inB f 0 15
    · rw [if_neg (by simp [h1])] at HO
      rw [h1] at HX
      clear h1
      go_enter Tryd.func14, Tryd.ntmps14
      go_wp2_with fail
      refine (unhide HX).mono ?_
      rintro e w9 ⟨rfl, hw9⟩
      subst w9
      go_wp2_with fail
      go_ret2
      exact ⟨by rw [unhide HO]; rfl, Below.refl _ _⟩
    · obtain ⟨m, rfl, hm⟩ := nat_of (lo := 0) h1
      cases h2 : inB n 0 (15 - (m : Int))
      · rw [if_neg (by simp [h2])] at HO
        rw [h1] at HX
        rw [h2] at HC
        clear h1 h2
        go_enter Tryd.func14, Tryd.ntmps14
        go_wp2_with fail
        refine (unhide HX).mono ?_
        rintro e w9 ⟨rfl, hw9⟩
        subst w9
        go_wp2_with fail
        refine (unhide HC).mono ?_
        rintro e w9 ⟨rfl, hw9⟩
        subst w9
        go_wp2_with fail
        go_ret2
        exact ⟨by rw [unhide HO]; rfl, Below.refl _ _⟩
      · rw [if_pos ⟨h1, h2⟩] at HO
        rw [h1] at HX
        rw [h2] at HC
        obtain ⟨k, rfl, hk⟩ := nat_of (lo := 0) h2
        rw [Int.toNat_natCast, Int.toNat_natCast] at HO
        have HS := hide (l08Chain_any s m k w hs2 (by omega))
        clear h1 h2
        go_enter Tryd.func14, Tryd.ntmps14
        go_wp2_with fail
        refine (unhide HX).mono ?_
        rintro e w9 ⟨rfl, hw9⟩
        subst w9
        go_wp2_with fail
        refine (unhide HC).mono ?_
        rintro e w9 ⟨rfl, hw9⟩
        subst w9
        go_wp2_with fail
        refine (unhide HS).mono ?_
        rintro e w3 ⟨rfl, hb3⟩
        have K := hide hb3
        clear hb3
        go_wp2_with fail
        go_ret2
        exact ⟨by rw [unhide HO]; rfl, unhide K⟩
  · have HO : Hid (chOut s f n = .tuple #[.string ⟨#[]⟩, .int .i64 1]) := hide (by
      have e : hfC s = 1 := by unfold hfC; rw [if_neg hs1, if_neg hs2]
      unfold chOut; rw [e]; rfl)
    have hs3 : (s.size : Int) ≠ 32 := by omega
    go_enter Tryd.func14, Tryd.ntmps14
    go_wp2_with fail
    go_ret2
    exact ⟨by rw [unhide HO]; rfl, Below.refl _ _⟩
end Go.Proofs.YtcmdilmjdnbfkaaDoor.Sha
