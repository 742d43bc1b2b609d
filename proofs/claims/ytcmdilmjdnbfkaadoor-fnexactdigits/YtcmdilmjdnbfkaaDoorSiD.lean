/- Digits of a message: impl's. -/
import Derived.Test.YtcmdilmjdnbfkaaDoorMkA
import Derived.Test.YtcmdilmjdnbfkaaDoorRowI
import Derived.Test.YtcmdilmjdnbfkaaDoorLaidI
import Derived.Test.YtcmdilmjdnbfkaaDoorTxf
import Derived.Deep.QuietTactic
import Derived.BigQuiet
import Derived.Deep.DeepCutAuto
namespace Go.Proofs.YtcmdilmjdnbfkaaDoor.Sha
open Go.ChangeShapes Go.WideShapes Go.ChangeAt Go.RowKit
set_option linter.unusedVariables false

/-- The digits of a hash. -/
def dg (h : ByteArray) (k : Nat) : Int := if k % 2 = 0 then bAt h (k / 2) / 16 else bAt h (k / 2) % 16
theorem dg_even (h : ByteArray) (k : Nat) : dg h (2 * k) = bAt h k / 16 := by unfold dg; rw [if_pos (by omega), show 2 * k / 2 = k by omega]
theorem dg_odd (h : ByteArray) (k : Nat) : dg h (2 * k + 1) = bAt h k % 16 := by unfold dg; rw [if_neg (by omega), show (2 * k + 1) / 2 = k by omega]
theorem dg_range (h : ByteArray) (k : Nat) : 0 ≤ dg h k ∧ dg h k ≤ 15 := by
  have h0 := bAt_lo h (k / 2)
  have h1 := bAt_hi h (k / 2)
  unfold dg; split <;> omega
def lackP (h : ByteArray) : Nat → Int
  | 0 => 0
  | k + 1 => lackP h k + (30 - dg h (2 * k) - dg h (2 * k + 1))
theorem lackP_range (h : ByteArray) (k : Nat) : 0 ≤ lackP h k ∧ lackP h k ≤ 30 * (k : Int) := by
  induction k with
  | zero => unfold lackP; omega
  | succ k ih =>
    have h0 := dg_range h (2 * k)
    have h1 := dg_range h (2 * k + 1)
    unfold lackP; omega
def lackT (h : ByteArray) : Nat → Int
  | 0 => 0
  | k + 1 => lackT h k + (15 - dg h k)
theorem lackT_two (h : ByteArray) (k : Nat) : lackT h (2 * k) = lackP h k := by
  induction k with
  | zero => rfl
  | succ k ih =>
    rw [show 2 * (k + 1) = 2 * k + 1 + 1 by omega]
    unfold lackT
    unfold lackT
    rw [ih]
    show _ = lackP h k + (30 - dg h (2 * k) - dg h (2 * k + 1))
    omega
theorem lackT_range (h : ByteArray) (k : Nat) : 0 ≤ lackT h k ∧ lackT h k ≤ 15 * (k : Int) := by
  induction k with
  | zero => unfold lackT; omega
  | succ k ih =>
    have h0 := dg_range h k
    unfold lackT; omega
def dgF (h : ByteArray) (j : Nat) : Int := if j < 16 then dg h j else if j = 16 then lackP h 8 / 16 else lackP h 8 % 16
theorem dgF_range (h : ByteArray) (j : Nat) : 0 ≤ dgF h j ∧ dgF h j ≤ 15 := by
  have h0 := dg_range h j
  have h1 := lackP_range h 8
  unfold dgF; split
  · exact h0
  · split <;> omega
def outF (h : ByteArray) (k j : Nat) : Int := if j < 2 * k then dg h j else 0
theorem outF_step (h : ByteArray) (k j : Nat) : (if j = 2 * k + 1 then dg h (2 * k + 1) else if j = 2 * k then dg h (2 * k) else outF h k j) = outF h (k + 1) j := by
  unfold outF
  by_cases h1 : j = 2 * k + 1
  · subst h1; rw [if_pos rfl, if_pos (by omega)]
  · rw [if_neg h1]
    by_cases h2 : j = 2 * k
    · subst h2; rw [if_pos rfl, if_pos (by omega)]
    · rw [if_neg h2]
      by_cases h3 : j < 2 * k
      · rw [if_pos h3, if_pos (by omega)]
      · rw [if_neg h3, if_neg (by omega)]
theorem outF_end (h : ByteArray) (j : Nat) (hj : j < 18) : (if j = 17 then lackP h 8 % 16 else if j = 16 then lackP h 8 / 16 else outF h 8 j) = dgF h j := by
  unfold outF dgF
  by_cases h1 : j = 17
  · subst h1; simp
  · rw [if_neg h1]
    by_cases h2 : j = 16
    · subst h2; simp
    · rw [if_neg h2, if_pos (by omega), if_pos (by omega)]
theorem outF_zero (h : ByteArray) (j : Nat) : outF h 0 j = 0 := by unfold outF; rw [if_neg (by omega)]
set_option maxRecDepth 100000 in
set_option maxHeartbeats 2000000 in
theorem digitsOf_any (m : ByteArray) (w : World) (hm : m.size ≤ 65536) (ht : Tab w) :
    Calls Tryd.prog 34 #[.string m] w fun e w' => e = .returned (.agg (cellsI 18 (dgF (hashV (bytesI m)))).toArray) ∧ Below w.heap.size w w' := by
  have R0 : Hid (RowI ((w.alloc (.cells #[Value.int IntKind.i64 0, Value.int IntKind.i64 0, Value.int IntKind.i64 0, Value.int IntKind.i64 0, Value.int IntKind.i64 0, Value.int IntKind.i64 0, Value.int IntKind.i64 0, Value.int IntKind.i64 0, Value.int IntKind.i64 0, Value.int IntKind.i64 0, Value.int IntKind.i64 0, Value.int IntKind.i64 0, Value.int IntKind.i64 0, Value.int IntKind.i64 0, Value.int IntKind.i64 0, Value.int IntKind.i64 0, Value.int IntKind.i64 0, Value.int IntKind.i64 0] 54)).alloc (.cells #[Value.int IntKind.i64 0, Value.int IntKind.i64 0, Value.int IntKind.i64 0, Value.int IntKind.i64 0, Value.int IntKind.i64 0, Value.int IntKind.i64 0, Value.int IntKind.i64 0, Value.int IntKind.i64 0, Value.int IntKind.i64 0, Value.int IntKind.i64 0, Value.int IntKind.i64 0, Value.int IntKind.i64 0, Value.int IntKind.i64 0, Value.int IntKind.i64 0, Value.int IntKind.i64 0, Value.int IntKind.i64 0, Value.int IntKind.i64 0, Value.int IntKind.i64 0] 54)) w.heap.size 18 (fun _ => 0)) := hide ((rowI_box w 18 (fun _ => 0) 54 _ rfl).alloc (by simp) _ _)
  have R1 : Hid (RowI ((w.alloc (.cells #[Value.int IntKind.i64 0, Value.int IntKind.i64 0, Value.int IntKind.i64 0, Value.int IntKind.i64 0, Value.int IntKind.i64 0, Value.int IntKind.i64 0, Value.int IntKind.i64 0, Value.int IntKind.i64 0, Value.int IntKind.i64 0, Value.int IntKind.i64 0, Value.int IntKind.i64 0, Value.int IntKind.i64 0, Value.int IntKind.i64 0, Value.int IntKind.i64 0, Value.int IntKind.i64 0, Value.int IntKind.i64 0, Value.int IntKind.i64 0, Value.int IntKind.i64 0] 54)).alloc (.cells #[Value.int IntKind.i64 0, Value.int IntKind.i64 0, Value.int IntKind.i64 0, Value.int IntKind.i64 0, Value.int IntKind.i64 0, Value.int IntKind.i64 0, Value.int IntKind.i64 0, Value.int IntKind.i64 0, Value.int IntKind.i64 0, Value.int IntKind.i64 0, Value.int IntKind.i64 0, Value.int IntKind.i64 0, Value.int IntKind.i64 0, Value.int IntKind.i64 0, Value.int IntKind.i64 0, Value.int IntKind.i64 0, Value.int IntKind.i64 0, Value.int IntKind.i64 0] 54)) (w.heap.size + 1) 18 (fun _ => 0)) := hide (rowI_box _ 18 (fun _ => 0) 54 _ (by simp))
  have B0 : Hid (Below w.heap.size w ((w.alloc (.cells #[Value.int IntKind.i64 0, Value.int IntKind.i64 0, Value.int IntKind.i64 0, Value.int IntKind.i64 0, Value.int IntKind.i64 0, Value.int IntKind.i64 0, Value.int IntKind.i64 0, Value.int IntKind.i64 0, Value.int IntKind.i64 0, Value.int IntKind.i64 0, Value.int IntKind.i64 0, Value.int IntKind.i64 0, Value.int IntKind.i64 0, Value.int IntKind.i64 0, Value.int IntKind.i64 0, Value.int IntKind.i64 0, Value.int IntKind.i64 0, Value.int IntKind.i64 0] 54)).alloc (.cells #[Value.int IntKind.i64 0, Value.int IntKind.i64 0, Value.int IntKind.i64 0, Value.int IntKind.i64 0, Value.int IntKind.i64 0, Value.int IntKind.i64 0, Value.int IntKind.i64 0, Value.int IntKind.i64 0, Value.int IntKind.i64 0, Value.int IntKind.i64 0, Value.int IntKind.i64 0, Value.int IntKind.i64 0, Value.int IntKind.i64 0, Value.int IntKind.i64 0, Value.int IntKind.i64 0, Value.int IntKind.i64 0, Value.int IntKind.i64 0, Value.int IntKind.i64 0] 54))) := hide (((Below.refl _ _).alloc (Nat.le_refl _) _).alloc (by simp) _)
  have Z0 : Hid (((w.alloc (.cells #[Value.int IntKind.i64 0, Value.int IntKind.i64 0, Value.int IntKind.i64 0, Value.int IntKind.i64 0, Value.int IntKind.i64 0, Value.int IntKind.i64 0, Value.int IntKind.i64 0, Value.int IntKind.i64 0, Value.int IntKind.i64 0, Value.int IntKind.i64 0, Value.int IntKind.i64 0, Value.int IntKind.i64 0, Value.int IntKind.i64 0, Value.int IntKind.i64 0, Value.int IntKind.i64 0, Value.int IntKind.i64 0, Value.int IntKind.i64 0, Value.int IntKind.i64 0] 54)).alloc (.cells #[Value.int IntKind.i64 0, Value.int IntKind.i64 0, Value.int IntKind.i64 0, Value.int IntKind.i64 0, Value.int IntKind.i64 0, Value.int IntKind.i64 0, Value.int IntKind.i64 0, Value.int IntKind.i64 0, Value.int IntKind.i64 0, Value.int IntKind.i64 0, Value.int IntKind.i64 0, Value.int IntKind.i64 0, Value.int IntKind.i64 0, Value.int IntKind.i64 0, Value.int IntKind.i64 0, Value.int IntKind.i64 0, Value.int IntKind.i64 0, Value.int IntKind.i64 0] 54)).heap.size = w.heap.size + 2) := hide (by simp)
  have HT := hide ht
  have HH32 := hide (hash_size (l := bytesI m) (by rw [bytesI_len]; exact hm))
  have hu := Tryd.underlying54
  clear ht
  go_enter Tryd.func34, Tryd.ntmps34
  go_upto_region 2 with fail
  generalize (w.alloc (.cells #[Value.int IntKind.i64 0, Value.int IntKind.i64 0, Value.int IntKind.i64 0, Value.int IntKind.i64 0, Value.int IntKind.i64 0, Value.int IntKind.i64 0, Value.int IntKind.i64 0, Value.int IntKind.i64 0, Value.int IntKind.i64 0, Value.int IntKind.i64 0, Value.int IntKind.i64 0, Value.int IntKind.i64 0, Value.int IntKind.i64 0, Value.int IntKind.i64 0, Value.int IntKind.i64 0, Value.int IntKind.i64 0, Value.int IntKind.i64 0, Value.int IntKind.i64 0] 54)).alloc (.cells #[Value.int IntKind.i64 0, Value.int IntKind.i64 0, Value.int IntKind.i64 0, Value.int IntKind.i64 0, Value.int IntKind.i64 0, Value.int IntKind.i64 0, Value.int IntKind.i64 0, Value.int IntKind.i64 0, Value.int IntKind.i64 0, Value.int IntKind.i64 0, Value.int IntKind.i64 0, Value.int IntKind.i64 0, Value.int IntKind.i64 0, Value.int IntKind.i64 0, Value.int IntKind.i64 0, Value.int IntKind.i64 0, Value.int IntKind.i64 0, Value.int IntKind.i64 0] 54) = w0 at *
  obtain ⟨cap, w1, hcv, hB, hb1⟩ := str_bytesB m w0 (by unfold maxLen; omega)
  have B1 := hide ((unhide B0).trans (hb1.mono (unhide B0).size))
  have HI := hide (implHash_any _ _ w1 hB ((unhide HT).below (unhide B1)).2 ((unhide HT).below (unhide B1)).1)
  have HB1 := hide hb1
  clear hb1 hB
  go_wp2_with fail
  refine (unhide HI).mono ?_
  rintro e w2 ⟨rfl, hb2⟩
  have hb02 := (unhide HB1).trans (hb2.mono (unhide HB1).size)
  have R02 := hide ((unhide R0).below hb02 (by have := unhide Z0; omega))
  have R12 := hide ((unhide R1).below hb02 (by have := unhide Z0; omega))
  have B2 := hide ((unhide B0).trans (hb02.mono (unhide B0).size))
  generalize hhh : hashV (bytesI m) = h at *
  have HHH := hide hhh
  clear hhh
  clear hb02 hb2 R0 R1 B1 B0 Z0 HB1 HI hcv
  go_wp2_with fail
  go_loopw [5, 6, 7, 8, 12] (fun lk _ _ _ c wr => ∃ k : Nat, k ≤ 8 ∧ lk = .int .i64 (lackP h k) ∧ c = .int .i64 k ∧ RowI wr w.heap.size 18 (fun _ => 0) ∧ RowI wr (w.heap.size + 1) 18 (outF h k) ∧ Below w.heap.size w wr)
    (fun _ _ _ _ c _ => 8 - (intOf c).toNat)
  case atStart => exact ⟨0, Nat.zero_le _, rfl, rfl, unhide R02, (unhide R12).congr fun j _ => (outF_zero h j).symm, unhide B2⟩
  case round =>
    clear R02 R12 B2
    obtain ⟨k, hk, rfl, rfl, hR0, hR1, hbel⟩ := hrel
    have hlk := lackP_range h k
    by_cases hlt : k < 8
    · have hk0 : (0 : Int) ≤ (k : Int) := by omega
      have hk8 : (k : Int) < 8 := by omega
      have hkh : k < h.size := by have := unhide HH32; omega
      have hk1 : (k : Int) < (h.size : Int) := by omega
      have hbA := bAt_eq h k hkh
      have hx0 := dg_range h (2 * k)
      have hy0 := dg_range h (2 * k + 1)
      have hq1 : Int.tdiv (bAt h k) 16 = dg h (2 * k) := by rw [dg_even, Int.tdiv_eq_ediv_of_nonneg (bAt_lo h k)]
      have hq2 : Int.tmod (bAt h k) 16 = dg h (2 * k + 1) := by rw [dg_odd, Int.tmod_eq_emod_of_nonneg (bAt_lo h k)]
      have HN : Hid (lackP h (k + 1) = lackP h k + (30 - dg h (2 * k) - dg h (2 * k + 1))) := rfl
      have HS1 : Hid (∀ wz : World, RowI wz (w.heap.size + 1) 18 (outF h k) → RowI ((wz.setCell ⟨w.heap.size + 1, 2 * k, none⟩ (.int .i64 (dg h (2 * k)))).setCell ⟨w.heap.size + 1, 2 * k + 1, none⟩ (.int .i64 (dg h (2 * k + 1)))) (w.heap.size + 1) 18 (outF h (k + 1))) := hide (fun wz hz => ((hz.set (2 * k) (dg h (2 * k))).set (2 * k + 1) (dg h (2 * k + 1))).congr fun j _ => outF_step h k j)
      have hbl := bAt_lo h k
      have hbh := bAt_hi h k
      generalize dg h (2 * k) = x at *
      generalize dg h (2 * k + 1) = y at *
      generalize lackP h k = lk at *
      generalize bAt h k = b at *
      have p2 : (0 : Int) ≤ 2 * (k : Int) := by omega
      have p3 : 2 * (k : Int) < 18 := by omega
      have p4 : 2 * (k : Int) + 1 < 18 := by omega
      have p5 : (0 : Int) ≤ 2 * (k : Int) + 1 := by omega
      have t1 : (2 * (k : Int)).toNat = 2 * k := by omega
      have t2 : (2 * (k : Int) + 1).toNat = 2 * k + 1 := by omega
      have HR0 := hide hR0
      have HR1 := hide hR1
      have HB := hide hbel
      clear hR0 hR1 hbel
      go_wp2_with fail
      go_quiet (fail)
      have HR0' := hide ((unhide HR0).drewN nq)
      have HR1' := hide ((unhide HR1).drewN nq)
      have HB' := hide (below_drewN (unhide HB) nq)
      clear HR0 HR1 HB
      generalize wr.drewN nq = wz at *
      have c1 := (unhide HR1' (2 * k) (by omega)).1
      have f1 := (unhide HR1' (2 * k) (by omega)).2
      have c2 := (unhide HR1' (2 * k + 1) (by omega)).1
      have f2 := (unhide HR1' (2 * k + 1) (by omega)).2
      generalize outF h k (2 * k) = o1 at *
      generalize outF h k (2 * k + 1) = o2 at *
      go_wp2_with fail
      refine ⟨⟨k + 1, by omega, by rw [unhide HN], by go_num, ((unhide HR0').other (a := ⟨w.heap.size + 1, 2 * k, none⟩) (by simp) _).other (a := ⟨w.heap.size + 1, 2 * k + 1, none⟩) (by simp) _, unhide HS1 _ (unhide HR1'), ((unhide HB').setCell (p := ⟨w.heap.size + 1, 2 * k, none⟩) (by simp) _).setCell (p := ⟨w.heap.size + 1, 2 * k + 1, none⟩) (by simp) _⟩, ?_⟩
      simp [intOf]; omega
    · obtain rfl : k = 8 := by omega
      have hq1 : Int.tdiv (lackP h 8) 16 = lackP h 8 / 16 := by rw [Int.tdiv_eq_ediv_of_nonneg hlk.1]
      have hq2 : Int.tmod (lackP h 8) 16 = lackP h 8 % 16 := by rw [Int.tmod_eq_emod_of_nonneg hlk.1]
      have hwx : wrap64 (lackP h 8 / 16) = lackP h 8 / 16 := by unfold wrap64; omega
      have hX : RowI ((wr.setCell ⟨w.heap.size + 1, 16, none⟩ (.int .i64 (lackP h 8 / 16))).setCell ⟨w.heap.size + 1, 17, none⟩ (.int .i64 (lackP h 8 % 16))) (w.heap.size + 1) 18 (dgF h) := ((hR1.set 16 (lackP h 8 / 16)).set 17 (lackP h 8 % 16)).congr fun j hj => outF_end h j hj
      have hR : RowI ((wr.setCell ⟨w.heap.size + 1, 16, none⟩ (.int .i64 (lackP h 8 / 16))).setCell ⟨w.heap.size + 1, 17, none⟩ (.int .i64 (lackP h 8 % 16))) w.heap.size 18 (fun _ => 0) := (hR0.other (a := ⟨w.heap.size + 1, 16, none⟩) (by simp) _).other (a := ⟨w.heap.size + 1, 17, none⟩) (by simp) _
      have HB := hide ((hbel.setCell (p := ⟨w.heap.size + 1, 16, none⟩) (by simp) (.int .i64 (lackP h 8 / 16))).setCell (p := ⟨w.heap.size + 1, 17, none⟩) (by simp) (.int .i64 (lackP h 8 % 16)))
      have c1 := (hR1 16 (by omega)).1
      have f1 := (hR1 16 (by omega)).2
      have c2 := (hR1 17 (by omega)).1
      have f2 := (hR1 17 (by omega)).2
      generalize outF h 8 16 = o1 at *
      generalize outF h 8 17 = o2 at *
      have hr := hX.range
      have hth : (World.there ((wr.setCell ⟨w.heap.size + 1, 16, none⟩ (.int .i64 (lackP h 8 / 16))).setCell ⟨w.heap.size + 1, 17, none⟩ (.int .i64 (lackP h 8 % 16))) w.heap.size 0 (cellsI 18 (dgF h)).toArray.size) := by
        rw [show (cellsI 18 (dgF h)).toArray.size = 18 by simp [cellsI_len]]; exact hR.there
      have hst := hide (hR.stored (g := dgF h))
      have hi3 : (Tryd.prog.info? 54).map (·.size) = some (cellsI 18 (dgF h)).length := by rw [cellsI_len]; kernel_rfl
      have hi4 : (Tryd.prog.info? 54).map (·.size) = some (cellsI 18 (dgF h)).toArray.size := by rw [show (cellsI 18 (dgF h)).toArray.size = 18 by simp [cellsI_len]]; kernel_rfl
      clear hX hR hR0 hR1 hbel
      generalize lackP h 8 / 16 = x at *
      generalize lackP h 8 % 16 = y at *
      generalize lackP h 8 = lk at *
      go_wp2_with (first | (refine wpList_load_mid rfl 54 _ rfl (w.heap.size + 1) 0 rfl _ _ hr hu rfl hi3 ?_) | (refine wpList_store_mid rfl 54 _ _ rfl w.heap.size 0 _ rfl rfl (by exact hth) hi4 (all_oneCell_toArray (cellsI_one _ _)) ?_))
      refine bodyPost_ret (v := .agg (cellsI 18 (dgF h)).toArray) (results_cell (p := 2) (ty := 54) (a := ⟨w.heap.size, 0, none⟩) (by kernel_rfl) rfl (run_loadVar_mid _ _ 0 54 _ _ (unhide hst).range hu rfl hi3)) rfl ⟨by rw [unhide HHH], ?_⟩
      exact below_setCells (Nat.le_refl _) _ _ (unhide HB)
end Go.Proofs.YtcmdilmjdnbfkaaDoor.Sha
