/- A statement's text: impl.StatementText, spec.l15Text, spec.StatementText. -/
import Derived.Test.YtinpoaghedhknaaDoorStm
import Derived.Test.YtinpoaghedhknaaDoorDgs
import Derived.Test.YtinpoaghedhknaaDoorHashText
import Derived.Test.YtinpoaghedhknaaDoorTk
import Derived.Test.YtinpoaghedhknaaDoorQb
import Derived.Deep.Cut
namespace Go.Proofs.YtinpoaghedhknaaDoor
open Go.ChangeShapes Go.WideShapes Go.ChangeAt Go.RowKit Go.Deep
set_option linter.unusedVariables false
set_option linter.unusedSimpArgs false
set_option maxRecDepth 100000

/-- A hash's text. -/
def hxT (s : ByteArray) : ByteArray := strOfNums (fnExactHashText.hexL s s.size)
theorem hxT_size {s : ByteArray} (h : s.size = 32) : (hxT s).size = 64 := by
  unfold hxT; rw [strOfNums_size, fnExactHashText.hexL_len, h]
/-- A right statement's text. -/
def stmT (n : Nat) (lg mp : ByteArray) : ByteArray :=
  ByteArray.mk #[115, 105, 122, 101, 32] ++ digT n ++ ByteArray.mk #[32, 108, 111, 103, 32] ++ hxT lg ++ ByteArray.mk #[32, 109, 97, 112, 32] ++ hxT mp
/-- What StatementText answers. -/
def stmOut (z : Int) (lg mp : ByteArray) : ByteArray × Int := if stmB z lg mp = true then (stmT z.toNat lg mp, 0) else (⟨#[]⟩, 1)
theorem stmOut_no {z : Int} {lg mp : ByteArray} (h : stmB z lg mp = false) : stmOut z lg mp = (⟨#[]⟩, 1) := by unfold stmOut; rw [if_neg (by rw [h]; simp)]
theorem stmOut_yes {z : Int} {lg mp : ByteArray} (h : stmB z lg mp = true) : stmOut z lg mp = (stmT z.toNat lg mp, 0) := by unfold stmOut; rw [if_pos h]
/-- Sums of lengths that are ints. -/
theorem stm_sizes {d h1 h2 : ByteArray} (a : d.size ≤ 2) (b : h1.size = 64) (c : h2.size = 64) :
    (¬ 9223372036854775807 < 5 + d.size) ∧ (¬ 9223372036854775807 < 5 + d.size + 5) ∧ (¬ 9223372036854775807 < 5 + d.size + 5 + h1.size) ∧
    (¬ 9223372036854775807 < 5 + d.size + 5 + h1.size + 5) ∧ (¬ 9223372036854775807 < 5 + d.size + 5 + h1.size + 5 + h2.size) := by omega
set_option maxHeartbeats 2000000 in
theorem implStmT_any (z : Int) (lg mp : ByteArray) (w : World) (hl : lg.size ≤ maxLen) (hm : mp.size ≤ maxLen) :
    Calls Tryd.prog 13 #[.agg #[.int .i64 z, .string lg, .string mp]] w fun e w' => e = .returned (.tuple #[.string (stmOut z lg mp).1, .int .i64 (stmOut z lg mp).2]) ∧ Below w.heap.size w w' := by
  have B0 := hide ((Below.refl w.heap.size w).alloc (Nat.le_refl _) (.cells #[.int .i64 z, .string lg, .string mp] 45))
  have X0 := hide (Blk.new w #[.int .i64 z, .string lg, .string mp] 45 w.heap.size rfl)
  have H1 := hide (fun wx => statementOK_any z lg mp wx hl hm)
  have HB := hide (stmB_iff (z := z) (lg := lg) (mp := mp))
  have HN := hide (stmOut_no (z := z) (lg := lg) (mp := mp))
  have HY := hide (stmOut_yes (z := z) (lg := lg) (mp := mp))
  clear hl hm
  generalize stmB z lg mp = b at *
  generalize stmOut z lg mp = out at *
  go_enter Tryd.func13, Tryd.ntmps13
  go_wp2_with fail
  refine (unhide H1 _).mono ?_
  rintro e w1 ⟨rfl, hb1⟩
  have B1 := hide ((unhide B0).trans (hb1.mono (by simp)))
  have X1 := hide ((unhide X0).below hb1)
  clear hb1 B0 X0
  cases b
  · have HO := hide (unhide HN rfl)
    go_wp2_with fail
    go_ret2
    exact ⟨by rw [unhide HO]; rfl, unhide B1⟩
  obtain ⟨⟨z0, z1⟩, h1, h2⟩ := (unhide HB).1 rfl
  have HO := hide (unhide HY rfl)
  obtain ⟨n, rfl⟩ : ∃ n : Nat, z = (n : Int) := ⟨z.toNat, by omega⟩
  rw [Int.toNat_natCast] at HO
  have H2 := hide (fun wx => fnExactHashText.hexText_any lg wx h1)
  have H3 := hide (fun wx => fnExactHashText.hexText_any mp wx h2)
  have HI := hide (fun wx => itoa_any n (by omega) wx)
  have HT : Hid (stmT n lg mp = ByteArray.mk #[115, 105, 122, 101, 32] ++ digT n ++ ByteArray.mk #[32, 108, 111, 103, 32] ++ hxT lg ++ ByteArray.mk #[32, 109, 97, 112, 32] ++ hxT mp) := rfl
  obtain ⟨s1, s2, s3, s4, s5⟩ := stm_sizes (dig_size ⟨n, by omega⟩) (hxT_size h1) (hxT_size h2)
  dsimp only at s1 s2 s3 s4 s5
  change Hid (∀ wx : World, Calls Tryd.prog 31 #[.string lg] wx fun e w' => e = .returned (.string (hxT lg)) ∧ Below wx.heap.size wx w') at H2
  change Hid (∀ wx : World, Calls Tryd.prog 31 #[.string mp] wx fun e w' => e = .returned (.string (hxT mp)) ∧ Below wx.heap.size wx w') at H3
  generalize hPP : w.heap.size = P at *
  have hP : P < w1.heap.size := (unhide X1).1
  have c0 := (unhide X1).cell 0 rfl
  have c1 := (unhide X1).cell 1 rfl
  have c2 := (unhide X1).cell 2 rfl
  clear HB HN HY h1 h2
  generalize stmT n lg mp = tt at *
  generalize hxT lg = t1 at *
  generalize hxT mp = t2 at *
  generalize digT n = d at *
  go_upto_region 3 with fail
  refine wp_region_noPanic ?_
  refine wp_region_held_drew (S := (fun wx => wx.cell? ⟨P, 0, none⟩ = some (.int .i64 (n : Int)) ∧ wx.cell? ⟨P, 1, none⟩ = some (.string lg) ∧ wx.cell? ⟨P, 2, none⟩ = some (.string mp))) (by kernel_rfl) ?_ (fun hHeld => ?_)
  · exact ⟨c0, c1, c2⟩
  refine tkH 0 rfl ?_
  refine tkH 1 rfl ?_
  refine tkH 5 rfl ?_
  refine tkH 6 rfl ?_
  refine tkH 10 rfl ?_
  refine tkH 11 rfl ?_
  refine wpAnyH_ready (rs := [2]) (by kernel_rfl) (by simp) ?_
  refine AllReadyH.cons (o := _) rfl (fun K hK => ?_) AllReadyH.nil
  go_simp
  refine (unhide HI _).mono ?_
  rintro e w9 ⟨rfl, hw⟩
  subst w9
  go_wp2_with fail
  refine hK.out _ _ ?_ (fun hHeld => ?_)
  · exact ⟨c0, c1, c2⟩
  clear hK K
  (try simp only [Act.put, List.getElem_toArray, List.getElem_cons_succ, List.getElem_cons_zero, List.setIfInBounds_toArray, List.set_cons_zero, List.set_cons_succ])
  refine tkH 3 rfl ?_
  refine tkH 4 rfl ?_
  refine wpAnyH_ready (rs := [7]) (by kernel_rfl) (by simp) ?_
  refine AllReadyH.cons (o := _) rfl (fun K hK => ?_) AllReadyH.nil
  go_simp
  refine (unhide H2 _).mono ?_
  rintro e w2 ⟨rfl, hb2⟩
  replace hb2 : Below w1.heap.size w1 w2 := (below_drewN (Below.refl _ w1) 1).trans hb2
  go_wp2_with fail
  refine hK.out _ _ ?_ (fun hHeld => ?_)
  · exact ⟨(hb2.cell (p := ⟨P, 0, none⟩) hP).trans c0, (hb2.cell (p := ⟨P, 1, none⟩) hP).trans c1, (hb2.cell (p := ⟨P, 2, none⟩) hP).trans c2⟩
  clear hK K
  (try simp only [Act.put, List.getElem_toArray, List.getElem_cons_succ, List.getElem_cons_zero, List.setIfInBounds_toArray, List.set_cons_zero, List.set_cons_succ])
  refine tkH 8 rfl ?_
  refine tkH 9 rfl ?_
  refine wpAnyH_ready (rs := [12]) (by kernel_rfl) (by simp) ?_
  refine AllReadyH.cons (o := _) rfl (fun K hK => ?_) AllReadyH.nil
  go_simp
  refine (unhide H3 _).mono ?_
  rintro e w3 ⟨rfl, hb3⟩
  replace hb3 := hb2.trans (hb3.mono hb2.size)
  go_wp2_with fail
  refine hK.out _ _ ?_ (fun hHeld => ?_)
  · exact ⟨(hb3.cell (p := ⟨P, 0, none⟩) hP).trans c0, (hb3.cell (p := ⟨P, 1, none⟩) hP).trans c1, (hb3.cell (p := ⟨P, 2, none⟩) hP).trans c2⟩
  clear hK K
  (try simp only [Act.put, List.getElem_toArray, List.getElem_cons_succ, List.getElem_cons_zero, List.setIfInBounds_toArray, List.set_cons_zero, List.set_cons_succ])
  refine tkH 13 rfl ?_
  refine tkH 14 rfl ?_
  refine tkH 15 rfl ?_
  refine wpAnyH_done (by kernel_rfl) (NoPanic.normal ?_) _
  subst hPP
  have B3 := hide ((unhide B1).trans (hb3.mono (unhide B1).size))
  clear hb2 hb3 hHeld
  go_wp2_with fail
  go_ret2
  exact ⟨by rw [unhide HO, unhide HT]; rfl, unhide B3⟩
set_option maxHeartbeats 4000000 in
theorem l15Text_any (n : Nat) (lg mp : ByteArray) (w : World) (hn : n ≤ 50) (h1 : lg.size = 32) (h2 : mp.size = 32) :
    Calls Tryd.prog 28 #[.agg #[.int .i64 n, .string lg, .string mp]] w fun e w' => e = .returned (.string (stmT n lg mp)) ∧ Below w.heap.size w w' := by
  have B0 := hide ((Below.refl w.heap.size w).alloc (Nat.le_refl _) (.cells #[.int .i64 n, .string lg, .string mp] 45))
  have X0 := hide (Blk.new w #[.int .i64 n, .string lg, .string mp] 45 w.heap.size rfl)
  have HT : Hid (stmT n lg mp = ByteArray.mk #[115, 105, 122, 101, 32] ++ digT n ++ ByteArray.mk #[32, 108, 111, 103, 32] ++ hxT lg ++ ByteArray.mk #[32, 109, 97, 112, 32] ++ hxT mp) := rfl
  obtain ⟨s1, s2, s3, s4, s5⟩ := stm_sizes (dig_size ⟨n, by omega⟩) (hxT_size h1) (hxT_size h2)
  dsimp only at s1 s2 s3 s4 s5
  have HI := hide (fun wx => l00Digits_any n (by omega) wx)
  have H2 : Hid (∀ (s : ByteArray) (wx : World), s.size ≤ 65536 → Calls Tryd.prog 54 #[.string s] wx fun e w' => e = .returned (.string (hxT s)) ∧ Below wx.heap.size wx w') := hide (fun s wx h => fnExactHashText.l01Hex_any s wx h)
  have HS := hide (And.intro (show lg.size ≤ 65536 by omega) (show mp.size ≤ 65536 by omega))
  clear h1 h2
  generalize stmT n lg mp = tt at *
  generalize digT n = d at *
  go_enter Tryd.func28, Tryd.ntmps28
  go_wp2_with fail
  generalize w.alloc (.cells #[.int .i64 n, .string lg, .string mp] 45) = w1 at *
  have hx := (unhide X0).1
  have c0 := Wb.cell ((unhide X0).cell 0 rfl) hx
  have c1 := Wb.cell ((unhide X0).cell 1 rfl) hx
  have c2 := Wb.cell ((unhide X0).cell 2 rfl) hx
  refine wp_region_wb (by kernel_rfl) (by kernel_rfl) ?_
  repeat (go_big_quiet_step (first | (go_at_call 53; exact wb_of (unhide HI _)) | (go_at_call 54; refine wb_of (unhide H2 _ _ ?_); first | exact (unhide HS).1 | exact (unhide HS).2)))
  refine wpQuiet_nil ?_
  intro _ hw'
  obtain ⟨⟨w2, hb2⟩, rfl⟩ := hw'
  have B2 := hide ((unhide B0).trans (hb2.mono (unhide B0).size))
  clear hb2 c0 c1 c2
  go_wp2_with fail
  go_ret
  exact ⟨by rw [unhide HT]; rfl, unhide B2⟩
set_option maxHeartbeats 2000000 in
theorem specStmT_any (z : Int) (lg mp : ByteArray) (w : World) (hl : lg.size ≤ maxLen) (hm : mp.size ≤ maxLen) :
    Calls Tryd.prog 11 #[.agg #[.int .i64 z, .string lg, .string mp]] w fun e w' => e = .returned (.tuple #[.string (stmOut z lg mp).1, .int .i64 (stmOut z lg mp).2]) ∧ Below w.heap.size w w' := by
  have B0 := hide ((Below.refl w.heap.size w).alloc (Nat.le_refl _) (.cells #[.int .i64 z, .string lg, .string mp] 45))
  have X0 := hide (Blk.new w #[.int .i64 z, .string lg, .string mp] 45 w.heap.size rfl)
  have H1 := hide (fun wx => l15Statement_any z lg mp wx hl hm)
  have HB := hide (stmB_iff (z := z) (lg := lg) (mp := mp))
  have HN := hide (stmOut_no (z := z) (lg := lg) (mp := mp))
  have HY := hide (stmOut_yes (z := z) (lg := lg) (mp := mp))
  clear hl hm
  generalize stmB z lg mp = b at *
  generalize stmOut z lg mp = out at *
  go_enter Tryd.func11, Tryd.ntmps11
  go_wp2_with fail
  refine (unhide H1 _).mono ?_
  rintro e w1 ⟨rfl, hb1⟩
  have B1 := hide ((unhide B0).trans (hb1.mono (by simp)))
  have X1 := hide ((unhide X0).below hb1)
  clear hb1 B0 X0
  cases b
  · have HO := hide (unhide HN rfl)
    go_wp2_with fail
    go_ret2
    exact ⟨by rw [unhide HO]; rfl, unhide B1⟩
  obtain ⟨⟨z0, z1⟩, h1, h2⟩ := (unhide HB).1 rfl
  have HO := hide (unhide HY rfl)
  obtain ⟨n, rfl⟩ : ∃ n : Nat, z = (n : Int) := ⟨z.toNat, by omega⟩
  rw [Int.toNat_natCast] at HO
  have HI := hide (l15Text_any n lg mp w1 (by omega) h1 h2)
  have c0 := (unhide X1).cell 0 rfl
  have c1 := (unhide X1).cell 1 rfl
  have c2 := (unhide X1).cell 2 rfl
  clear HB HN HY h1 h2
  generalize stmT n lg mp = tt at *
  go_wp2_with fail
  refine (unhide HI).mono ?_
  rintro e w2 ⟨rfl, hb2⟩
  have B2 := hide ((unhide B1).trans (hb2.mono (unhide B1).size))
  clear hb2 c0 c1 c2
  go_wp2_with fail
  go_ret2
  exact ⟨by rw [unhide HO]; rfl, unhide B2⟩
end Go.Proofs.YtinpoaghedhknaaDoor
