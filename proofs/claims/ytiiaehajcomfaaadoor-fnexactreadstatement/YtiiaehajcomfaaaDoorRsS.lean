/- spec.ReadStatement. -/
import Derived.Test.YtiiaehajcomfaaaDoorRsJ
import Derived.Test.YtiiaehajcomfaaaDoorWrdA
import Derived.Test.YtiiaehajcomfaaaDoorNumA
import Derived.Test.YtiiaehajcomfaaaDoorRdHS
namespace Go.Proofs.YtiiaehajcomfaaaDoor.Sha
open Go.ChangeShapes Go.WideShapes Go.ChangeAt Go.RowKit
set_option linter.unusedVariables false
set_option linter.unusedSimpArgs false

/-- The statement that words are, and whether each is what it must be. -/
def rsC (t : ByteArray) (n : Int × Bool) (a b : ByteArray × Int) : (Int × ByteArray × ByteArray) × Int :=
  if n.2 = true ∧ a.2 = 0 ∧ b.2 = 0 ∧ stmB n.1 a.1 b.1 = true ∧ stmT n.1.toNat a.1 b.1 = t then ((n.1, a.1, b.1), 0) else ((0, ⟨#[]⟩, ⟨#[]⟩), 3)
def rsS (t : ByteArray) : (Int × ByteArray × ByteArray) × Int :=
  if 65536 < t.size then ((0, ⟨#[]⟩, ⟨#[]⟩), 2) else if (wordsL t).length = 6 ∧ t.size ≤ 200 then rsC t (numT ((wordsL t).getD 1 ByteArray.empty)) (rdT ((wordsL t).getD 3 ByteArray.empty)) (rdT ((wordsL t).getD 5 ByteArray.empty)) else ((0, ⟨#[]⟩, ⟨#[]⟩), 3)
theorem wst_small (t : ByteArray) : ∀ i, ∀ x ∈ (wst t i).1, x.size ≤ t.size := by
  intro i
  induction i with
  | zero => intro x hx; cases hx
  | succ i ih =>
    intro x hx
    rcases Bool.eq_false_or_eq_true (sepB t i) with h | h
    · by_cases h2 : (wst t i).2 < i
      · rw [wst_push h h2] at hx
        rcases List.mem_append.1 hx with h3 | h3
        · exact ih x h3
        · simp at h3; rw [h3, ByteArray.size_extract]; omega
      · rw [wst_skip h h2] at hx; exact ih x hx
    · rw [wst_no h] at hx; exact ih x hx
theorem words_small (t : ByteArray) (i : Nat) : ((wordsL t).getD i ByteArray.empty).size ≤ t.size := by
  rcases Nat.lt_or_ge i (wordsL t).length with h | h
  · refine wst_small t (t.size + 1) _ ?_
    rw [List.getD_eq_getElem?_getD, List.getElem?_eq_getElem h]
    exact List.getElem_mem h
  · rw [List.getD_eq_getElem?_getD, List.getElem?_eq_none h]; simp
set_option maxRecDepth 100000 in
set_option maxHeartbeats 8000000 in
theorem specRS_any (t : ByteArray) (w : World) (ht : t.size ≤ 1048576) :
    Calls Tryd.prog 11 #[.string t] w fun e w' => e = .returned (rsV (rsS t)) ∧ Below w.heap.size w w' := by
  have B0 := hide ((Below.refl w.heap.size w).alloc (Nat.le_refl _) (.cells #[.int .i64 0, .string ⟨#[]⟩, .string ⟨#[]⟩] 27))
  have X0 := hide (Blk.new w #[.int .i64 0, .string ⟨#[]⟩, .string ⟨#[]⟩] 27 w.heap.size rfl)
  by_cases h1 : 65536 < t.size
  · have HO : Hid (rsS t = ((0, ⟨#[]⟩, ⟨#[]⟩), 2)) := hide (by unfold rsS; rw [if_pos h1])
    generalize rsS t = out at *
    go_enter Tryd.func11, Tryd.ntmps11
    go_wp2_with fail
    refine bodyPost_ret (v := .tuple #[.agg #[.int .i64 0, .string ⟨#[]⟩, .string ⟨#[]⟩], .int .i64 2]) (by simp [results, Tryd.results11, go_sem]) rfl ⟨by rw [unhide HO]; rfl, unhide B0⟩
  have HO0 : Hid (rsS t = if (wordsL t).length = 6 ∧ t.size ≤ 200 then rsC t (numT ((wordsL t).getD 1 ByteArray.empty)) (rdT ((wordsL t).getD 3 ByteArray.empty)) (rdT ((wordsL t).getD 5 ByteArray.empty)) else ((0, ⟨#[]⟩, ⟨#[]⟩), 3)) := hide (by unfold rsS; rw [if_neg h1])
  have HWD := hide (fun wx => l00Words_any t wx (by omega))
  have z1 := words_small t 1
  have z3 := words_small t 3
  have z5 := words_small t 5
  have hwl : (wordsL t).length ≤ t.size + 1 := (wst_from t (t.size + 1)).2
  generalize rsS t = out at *
  generalize wordsL t = l at *
  have HN := hide (fun wx => l00Number_any (l.getD 1 ByteArray.empty) wx (by omega))
  have H3 := hide (fun wx => fnExactReadHash.specRead_any (l.getD 3 ByteArray.empty) wx (by unfold maxLen; omega))
  have H5 := hide (fun wx => fnExactReadHash.specRead_any (l.getD 5 ByteArray.empty) wx (by unfold maxLen; omega))
  rw [readV_rdT] at H3 H5
  have s3 := rdT_size (l.getD 3 ByteArray.empty)
  have s5 := rdT_size (l.getD 5 ByteArray.empty)
  generalize hw1 : l.getD 1 ByteArray.empty = t1 at *
  generalize hw3 : l.getD 3 ByteArray.empty = t3 at *
  generalize hw5 : l.getD 5 ByteArray.empty = t5 at *
  have HW1 := hide hw1
  have HW3 := hide hw3
  have HW5 := hide hw5
  clear hw1 hw3 hw5 z1 z3 z5
  generalize numT t1 = nn at *
  generalize rdT t3 = ra at *
  generalize rdT t5 = rb at *
  obtain ⟨z, ok⟩ := nn
  obtain ⟨lg, ca⟩ := ra
  obtain ⟨mp, cb⟩ := rb
  dsimp only at *
  have HLS := hide (fun wx => l15Statement_any z lg mp wx (by unfold maxLen; omega) (by unfold maxLen; omega))
  have HSZ := hide (And.intro s3 s5)
  clear s3 s5
  go_enter Tryd.func11, Tryd.ntmps11
  go_wp2_with fail
  refine (unhide HWD _).mono ?_
  rintro e w1 ⟨u, rfl, hO1, hb1⟩
  have B1 := hide ((unhide B0).trans (hb1.mono (unhide B0).size))
  have X1 := hide ((unhide X0).below hb1)
  have O1 := hide hO1
  have shp := ownS_shp hO1
  clear hb1 hO1 B0 X0 HWD
  obtain ⟨ua, uc, rfl⟩ := shp
  have r10 := (unhide X1).cell 0 rfl
  have q10 := (unhide X1).fro 0
  have r11 := (unhide X1).cell 1 rfl
  have q11 := (unhide X1).fro 1
  have r12 := (unhide X1).cell 2 rfl
  have q12 := (unhide X1).fro 2
  by_cases h6 : l.length = 6
  case neg =>
    have h6b : ((l.length : Int) == 6) = false := by rw [beq_eq_false_iff_ne]; omega
    have h6c : ((l.length : Int) != 6) = true := by rw [bne_iff_ne]; omega
    have HO := hide (unhide HO0)
    rw [if_neg (by rintro ⟨h, _⟩; exact h6 h)] at HO
    clear h6 HO0
    go_wp2_with fail
    have F := ((((unhide X1).set 0 (.int .i64 0) (by simp)).set 1 (.string ⟨#[]⟩) (by simp)).set 2 (.string ⟨#[]⟩) (by simp))
    have e0 := F.cell 0 rfl
    have e1 := F.cell 1 rfl
    have e2 := F.cell 2 rfl
    refine bodyPost_ret (v := .tuple #[.agg #[.int .i64 0, .string ⟨#[]⟩, .string ⟨#[]⟩], .int .i64 3]) (by simp [results, Tryd.results11, go_sem, e0, e1, e2]) rfl ⟨by rw [unhide HO]; rfl, ?_⟩
    exact ((((unhide B1).setCell (p := ⟨w.heap.size, 0, none⟩) (Nat.le_refl _) _).setCell (p := ⟨w.heap.size, 1, none⟩) (Nat.le_refl _) _).setCell (p := ⟨w.heap.size, 2, none⟩) (Nat.le_refl _) _)
  have h6b : ((l.length : Int) == 6) = true := by rw [beq_iff_eq]; omega
  have h6c : ((l.length : Int) != 6) = false := by rw [bne_eq_false_iff_eq]; omega
  by_cases h200 : 200 < t.size
  · have h201 : (200 : Int) < (t.size : Int) := by omega
    have HO := hide (unhide HO0)
    rw [if_neg (by rintro ⟨_, h⟩; omega)] at HO
    clear h6 HO0
    go_wp2_with fail
    have F := ((((unhide X1).set 0 (.int .i64 0) (by simp)).set 1 (.string ⟨#[]⟩) (by simp)).set 2 (.string ⟨#[]⟩) (by simp))
    have e0 := F.cell 0 rfl
    have e1 := F.cell 1 rfl
    have e2 := F.cell 2 rfl
    refine bodyPost_ret (v := .tuple #[.agg #[.int .i64 0, .string ⟨#[]⟩, .string ⟨#[]⟩], .int .i64 3]) (by simp [results, Tryd.results11, go_sem, e0, e1, e2]) rfl ⟨by rw [unhide HO]; rfl, ?_⟩
    exact ((((unhide B1).setCell (p := ⟨w.heap.size, 0, none⟩) (Nat.le_refl _) _).setCell (p := ⟨w.heap.size, 1, none⟩) (Nat.le_refl _) _).setCell (p := ⟨w.heap.size, 2, none⟩) (Nat.le_refl _) _)
  have h201 : ¬ (200 : Int) < (t.size : Int) := by omega
  have HO := hide (unhide HO0)
  rw [if_pos ⟨h6, by omega⟩] at HO
  clear HO0
  have k1 : (1 : Int) < (l.length : Int) := by omega
  have k3 : (3 : Int) < (l.length : Int) := by omega
  have k5 : (5 : Int) < (l.length : Int) := by omega
  have l1 : 1 < l.length := by omega
  have l3 : 3 < l.length := by omega
  have l5 : 5 < l.length := by omega
  clear h6
  obtain ⟨g, rfl, gl, cc1⟩ := ownS_at (unhide O1) 1 l1
  rw [unhide HW1] at cc1
  have gne : g ≠ w.heap.size := by
    have := ((unhide O1).lt g rfl).1
    simp at this
    omega
  go_wp2_with fail
  refine (unhide HN w1).mono ?_
  rintro e w9 ⟨rfl, hw⟩
  subst w9
  clear HN
  have cc3 := (unhide O1).cell 3 l3
  rw [unhide HW3] at cc3
  go_wp2_with fail
  refine (unhide H3 w1).mono ?_
  rintro e w2 ⟨rfl, hb2⟩
  have B2 := hide ((unhide B1).trans (hb2.mono (unhide B1).size))
  have X2 := hide ((unhide X1).below hb2)
  have O2 := hide ((unhide O1).below hb2)
  clear hb2 H3 B1 X1 O1 cc1 cc3 r10 q10 r11 q11 r12 q12
  have cc5 := (unhide O2).cell 5 l5
  rw [unhide HW5] at cc5
  go_wp2_with fail
  refine (unhide H5 w2).mono ?_
  rintro e w3 ⟨rfl, hb3⟩
  have B3 := hide ((unhide B2).trans (hb3.mono (unhide B2).size))
  have X3 := hide ((unhide X2).below hb3)
  clear hb3 H5 B2 X2 O2 cc5
  have hw3 : w.heap.size < w3.heap.size := (unhide X3).1
  have hne1 : w.heap.size ≠ w3.heap.size := by omega
  have hne2 : w3.heap.size ≠ w.heap.size := by omega
  have B4 := hide ((unhide B3).alloc (unhide B3).size (.cells #[.int .i64 z, .string lg, .string mp] 27))
  have X4 := hide ((unhide X3).alloc (.cells #[.int .i64 z, .string lg, .string mp] 27))
  have Y4 := hide (Blk.new w3 #[.int .i64 z, .string lg, .string mp] 27 w3.heap.size rfl)
  have HOO : Hid (rsC t (z, ok) (lg, ca) (mp, cb) = if ok = true ∧ ca = 0 ∧ cb = 0 ∧ stmB z lg mp = true ∧ stmT z.toNat lg mp = t then ((z, lg, mp), 0) else ((0, ⟨#[]⟩, ⟨#[]⟩), 3)) := hide rfl
  rw [unhide HOO] at HO
  clear HOO
  go_upto_region 10 with fail
  generalize w3.alloc (.cells #[.int .i64 z, .string lg, .string mp] 27) = w4 at *
  have r40 := (unhide X4).cell 0 rfl
  have q40 := (unhide X4).fro 0
  have r41 := (unhide X4).cell 1 rfl
  have q41 := (unhide X4).fro 1
  have r42 := (unhide X4).cell 2 rfl
  have q42 := (unhide X4).fro 2
  have d40 := (unhide Y4).cell 0 rfl
  have d41 := (unhide Y4).cell 1 rfl
  have d42 := (unhide Y4).cell 2 rfl
  cases ok
  · rw [if_neg (by rintro ⟨h, _⟩; cases h)] at HO
    go_wp2_with fail
    have F := ((((unhide X4).set 0 (.int .i64 0) (by simp)).set 1 (.string ⟨#[]⟩) (by simp)).set 2 (.string ⟨#[]⟩) (by simp))
    have e0 := F.cell 0 rfl
    have e1 := F.cell 1 rfl
    have e2 := F.cell 2 rfl
    refine bodyPost_ret (v := .tuple #[.agg #[.int .i64 0, .string ⟨#[]⟩, .string ⟨#[]⟩], .int .i64 3]) (by simp [results, Tryd.results11, go_sem, e0, e1, e2]) rfl ⟨by rw [unhide HO]; rfl, ?_⟩
    exact ((((unhide B4).setCell (p := ⟨w.heap.size, 0, none⟩) (Nat.le_refl _) _).setCell (p := ⟨w.heap.size, 1, none⟩) (Nat.le_refl _) _).setCell (p := ⟨w.heap.size, 2, none⟩) (Nat.le_refl _) _)
  by_cases hca : ca = 0
  case neg =>
    rw [if_neg (by rintro ⟨_, h, _⟩; exact hca h)] at HO
    have hcb2 : (ca == 0) = false := by rw [beq_eq_false_iff_ne]; exact hca
    have hcb3 : (ca != 0) = true := by rw [bne_iff_ne]; exact hca
    clear hca
    go_wp2_with fail
    have F := ((((unhide X4).set 0 (.int .i64 0) (by simp)).set 1 (.string ⟨#[]⟩) (by simp)).set 2 (.string ⟨#[]⟩) (by simp))
    have e0 := F.cell 0 rfl
    have e1 := F.cell 1 rfl
    have e2 := F.cell 2 rfl
    refine bodyPost_ret (v := .tuple #[.agg #[.int .i64 0, .string ⟨#[]⟩, .string ⟨#[]⟩], .int .i64 3]) (by simp [results, Tryd.results11, go_sem, e0, e1, e2]) rfl ⟨by rw [unhide HO]; rfl, ?_⟩
    exact ((((unhide B4).setCell (p := ⟨w.heap.size, 0, none⟩) (Nat.le_refl _) _).setCell (p := ⟨w.heap.size, 1, none⟩) (Nat.le_refl _) _).setCell (p := ⟨w.heap.size, 2, none⟩) (Nat.le_refl _) _)
  subst hca
  by_cases hcb : cb = 0
  case neg =>
    rw [if_neg (by rintro ⟨_, _, h, _⟩; exact hcb h)] at HO
    have hcb2 : (cb == 0) = false := by rw [beq_eq_false_iff_ne]; exact hcb
    have hcb3 : (cb != 0) = true := by rw [bne_iff_ne]; exact hcb
    clear hcb
    go_wp2_with fail
    have F := ((((unhide X4).set 0 (.int .i64 0) (by simp)).set 1 (.string ⟨#[]⟩) (by simp)).set 2 (.string ⟨#[]⟩) (by simp))
    have e0 := F.cell 0 rfl
    have e1 := F.cell 1 rfl
    have e2 := F.cell 2 rfl
    refine bodyPost_ret (v := .tuple #[.agg #[.int .i64 0, .string ⟨#[]⟩, .string ⟨#[]⟩], .int .i64 3]) (by simp [results, Tryd.results11, go_sem, e0, e1, e2]) rfl ⟨by rw [unhide HO]; rfl, ?_⟩
    exact ((((unhide B4).setCell (p := ⟨w.heap.size, 0, none⟩) (Nat.le_refl _) _).setCell (p := ⟨w.heap.size, 1, none⟩) (Nat.le_refl _) _).setCell (p := ⟨w.heap.size, 2, none⟩) (Nat.le_refl _) _)
  subst hcb
  go_wp2_with fail
  refine (unhide HLS w4).mono ?_
  rintro e w5 ⟨rfl, hb5⟩
  have B5 := hide ((unhide B4).trans (hb5.mono (unhide B4).size))
  have X5 := hide ((unhide X4).below hb5)
  have Y5 := hide ((unhide Y4).below hb5)
  clear hb5 HLS B4 X4 Y4 r40 q40 d40 r41 q41 d41 r42 q42 d42
  have r50 := (unhide X5).cell 0 rfl
  have q50 := (unhide X5).fro 0
  have r51 := (unhide X5).cell 1 rfl
  have q51 := (unhide X5).fro 1
  have r52 := (unhide X5).cell 2 rfl
  have q52 := (unhide X5).fro 2
  have d50 := (unhide Y5).cell 0 rfl
  have d51 := (unhide Y5).cell 1 rfl
  have d52 := (unhide Y5).cell 2 rfl
  cases hB : stmB z lg mp
  · rw [if_neg (by rintro ⟨_, _, _, h, _⟩; rw [hB] at h; cases h)] at HO
    clear hB
    go_wp2_with fail
    have F := ((((unhide X5).set 0 (.int .i64 0) (by simp)).set 1 (.string ⟨#[]⟩) (by simp)).set 2 (.string ⟨#[]⟩) (by simp))
    have e0 := F.cell 0 rfl
    have e1 := F.cell 1 rfl
    have e2 := F.cell 2 rfl
    refine bodyPost_ret (v := .tuple #[.agg #[.int .i64 0, .string ⟨#[]⟩, .string ⟨#[]⟩], .int .i64 3]) (by simp [results, Tryd.results11, go_sem, e0, e1, e2]) rfl ⟨by rw [unhide HO]; rfl, ?_⟩
    exact ((((unhide B5).setCell (p := ⟨w.heap.size, 0, none⟩) (Nat.le_refl _) _).setCell (p := ⟨w.heap.size, 1, none⟩) (Nat.le_refl _) _).setCell (p := ⟨w.heap.size, 2, none⟩) (Nat.le_refl _) _)
  obtain ⟨⟨b1, b2⟩, b3, b4⟩ := stmB_iff.1 hB
  have HT := hide (fun wx => l15Text_any z.toNat lg mp wx (by omega) b3 b4)
  have hzn : ((z.toNat : Nat) : Int) = z := by omega
  rw [hzn] at HT
  clear b1 b2 b3 b4 hzn
  go_wp2_with fail
  refine (unhide HT w5).mono ?_
  rintro e w6 ⟨rfl, hb6⟩
  have B6 := hide ((unhide B5).trans (hb6.mono (unhide B5).size))
  have X6 := hide ((unhide X5).below hb6)
  have Y6 := hide ((unhide Y5).below hb6)
  clear hb6 HT B5 X5 Y5 r50 q50 d50 r51 q51 d51 r52 q52 d52
  have r60 := (unhide X6).cell 0 rfl
  have q60 := (unhide X6).fro 0
  have r61 := (unhide X6).cell 1 rfl
  have q61 := (unhide X6).fro 1
  have r62 := (unhide X6).cell 2 rfl
  have q62 := (unhide X6).fro 2
  have d60 := (unhide Y6).cell 0 rfl
  have d61 := (unhide Y6).cell 1 rfl
  have d62 := (unhide Y6).cell 2 rfl
  by_cases hT : stmT z.toNat lg mp = t
  · rw [if_pos (by refine ⟨?_, ?_, ?_, hB, hT⟩ <;> first | rfl | trivial)] at HO
    have hte := textEq hT
    clear hB hT
    generalize stmT z.toNat lg mp = tx at *
    go_wp2_with fail
    have F := ((((unhide X6).set 0 (.int .i64 z) (by simp)).set 1 (.string lg) (by simp)).set 2 (.string mp) (by simp))
    have e0 := F.cell 0 rfl
    have e1 := F.cell 1 rfl
    have e2 := F.cell 2 rfl
    refine bodyPost_ret (v := .tuple #[.agg #[.int .i64 z, .string lg, .string mp], .int .i64 0]) (by simp [results, Tryd.results11, go_sem, e0, e1, e2]) rfl ⟨by rw [unhide HO]; rfl, ?_⟩
    exact ((((unhide B6).setCell (p := ⟨w.heap.size, 0, none⟩) (Nat.le_refl _) _).setCell (p := ⟨w.heap.size, 1, none⟩) (Nat.le_refl _) _).setCell (p := ⟨w.heap.size, 2, none⟩) (Nat.le_refl _) _)
  · rw [if_neg (by rintro ⟨_, _, _, _, h⟩; exact hT h)] at HO
    have hte := textNe hT
    clear hB hT
    generalize stmT z.toNat lg mp = tx at *
    go_wp2_with fail
    have F := ((((unhide X6).set 0 (.int .i64 0) (by simp)).set 1 (.string ⟨#[]⟩) (by simp)).set 2 (.string ⟨#[]⟩) (by simp))
    have e0 := F.cell 0 rfl
    have e1 := F.cell 1 rfl
    have e2 := F.cell 2 rfl
    refine bodyPost_ret (v := .tuple #[.agg #[.int .i64 0, .string ⟨#[]⟩, .string ⟨#[]⟩], .int .i64 3]) (by simp [results, Tryd.results11, go_sem, e0, e1, e2]) rfl ⟨by rw [unhide HO]; rfl, ?_⟩
    exact ((((unhide B6).setCell (p := ⟨w.heap.size, 0, none⟩) (Nat.le_refl _) _).setCell (p := ⟨w.heap.size, 1, none⟩) (Nat.le_refl _) _).setCell (p := ⟨w.heap.size, 2, none⟩) (Nat.le_refl _) _)
end Go.Proofs.YtiiaehajcomfaaaDoor.Sha
