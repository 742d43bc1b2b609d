/- impl.ReadStatement. -/
import Derived.Test.YtiiaehajcomfaaaDoorRsI
import Derived.Lib.SplitLaws
namespace Go.Proofs.YtiiaehajcomfaaaDoor.Sha
open Go.ChangeShapes Go.WideShapes Go.ChangeAt Go.RowKit
set_option linter.unusedVariables false
set_option linter.unusedSimpArgs false

/-- The pieces between blanks. -/
def splT (t : ByteArray) : List ByteArray := Lib.splitB ⟨#[32]⟩ 0 (Lib.countB t ⟨#[32]⟩) t
theorem splT_len (t : ByteArray) : (splT t).length = Lib.countB t ⟨#[32]⟩ + 1 := Lib.splitB_all ⟨#[32]⟩ (by decide) 0 _ t rfl
theorem split_small : ∀ (k : Nat) (s x : ByteArray), x ∈ Lib.splitB ⟨#[32]⟩ 0 k s → x.size ≤ s.size := by
  intro k
  induction k with
  | zero => intro s x hx; rw [Lib.splitB_zero] at hx; simp at hx; rw [hx]; exact Nat.le_refl _
  | succ k ih =>
    intro s x hx
    unfold Lib.splitB at hx
    split at hx
    · simp at hx; rw [hx]; exact Nat.le_refl _
    · rcases List.mem_cons.1 hx with h | h
      · rw [h, ByteArray.size_extract]; omega
      · have := ih _ _ h
        rw [ByteArray.size_extract] at this
        omega
theorem splT_small (t : ByteArray) (i : Nat) (hi : i < (splT t).length) : ((splT t).getD i ByteArray.empty).size ≤ t.size := by
  refine split_small (Lib.countB t ⟨#[32]⟩) t _ ?_
  rw [List.getD_eq_getElem?_getD, List.getElem?_eq_getElem hi]
  exact List.getElem_mem hi
theorem swOut_small (l : List ByteArray) : (swOut l).2.1.size ≤ 32 ∧ (swOut l).2.2.size ≤ 32 := by
  unfold swOut
  split
  · exact ⟨rdT_size _, rdT_size _⟩
  · exact ⟨by decide, by decide⟩
/-- What ReadStatement answers, of the statement s that the words are. -/
def rsO (t : ByteArray) (s : Int × ByteArray × ByteArray) : (Int × ByteArray × ByteArray) × Int :=
  if stmB s.1 s.2.1 s.2.2 = true ∧ stmT s.1.toNat s.2.1 s.2.2 = t then (s, 0) else ((0, ⟨#[]⟩, ⟨#[]⟩), 3)
def rsI (t : ByteArray) : (Int × ByteArray × ByteArray) × Int := if 65536 < t.size then ((0, ⟨#[]⟩, ⟨#[]⟩), 2) else rsO t (swOut (splT t))
def rsV (o : (Int × ByteArray × ByteArray) × Int) : Value := .tuple #[.agg #[.int .i64 o.1.1, .string o.1.2.1, .string o.1.2.2], .int .i64 o.2]
set_option maxRecDepth 100000 in
set_option maxHeartbeats 4000000 in
theorem implRS_any (t : ByteArray) (w : World) (ht : t.size ≤ 1048576) (h : Errs w) :
    Calls Tryd.prog 12 #[.string t] w fun e w' => e = .returned (rsV (rsI t)) ∧ Below w.heap.size w w' := by
  have B0 := hide ((Below.refl w.heap.size w).alloc (Nat.le_refl _) (.cells #[.int .i64 0, .string ⟨#[]⟩, .string ⟨#[]⟩] 27))
  have X0 := hide (Blk.new w #[.int .i64 0, .string ⟨#[]⟩, .string ⟨#[]⟩] 27 w.heap.size rfl)
  by_cases h1 : 65536 < t.size
  · have HO : Hid (rsI t = ((0, ⟨#[]⟩, ⟨#[]⟩), 2)) := hide (by unfold rsI; rw [if_pos h1])
    clear h
    generalize rsI t = out at *
    go_enter Tryd.func12, Tryd.ntmps12
    go_wp2_with fail
    refine bodyPost_ret (v := .tuple #[.agg #[.int .i64 0, .string ⟨#[]⟩, .string ⟨#[]⟩], .int .i64 2]) (by simp [results, Tryd.results12, go_sem]) rfl ⟨by rw [unhide HO]; rfl, unhide B0⟩
  have HO : Hid (rsI t = rsO t (swOut (splT t))) := hide (by unfold rsI; rw [if_neg h1])
  obtain ⟨m, hm⟩ := (h.below (unhide B0)).mxl
  have HSP := hide (Tryd.strings_Split t ⟨#[32]⟩ m (w.alloc (.cells #[.int .i64 0, .string ⟨#[]⟩, .string ⟨#[]⟩] 27)) (by omega) hm (by decide))
  have HE := hide h
  have HL := hide (splT_len t)
  have hcm : Lib.countB t ⟨#[32]⟩ ≤ t.size := Lib.countB_le ⟨#[32]⟩ (by decide) t.size t (Nat.le_refl _)
  have HSM := hide (splT_small t)
  have HSS := hide (swOut_small (splT t))
  have HSW := hide (fun b cap wx hx hy hz => statementWith_any (splT t) b cap wx hx hy hz)
  have HV : Hid (Lib.splitB ⟨#[32]⟩ 0 (Lib.countB t ⟨#[32]⟩) t = splT t) := hide rfl
  clear h hm
  generalize Lib.countB t ⟨#[32]⟩ = c at *
  rw [unhide HV] at HSP
  clear HV
  generalize splT t = l at *
  generalize swOut l = s at *
  obtain ⟨z, lg, mp⟩ := s
  dsimp only at *
  generalize rsI t = out at *
  go_enter Tryd.func12, Tryd.ntmps12
  go_wp2_with fail
  refine (unhide HSP).mono ?_
  rintro e w1 ⟨rfl, hw1⟩
  have B1 : Hid (Below w.heap.size w w1) := hide (by rw [hw1]; exact (unhide B0).alloc (unhide B0).size _)
  have X1 : Hid (Blk w1 w.heap.size [.int .i64 0, .string ⟨#[]⟩, .string ⟨#[]⟩]) := hide (by rw [hw1]; exact (unhide X0).alloc _)
  have S1 : Hid (SA w1 (w.alloc (.cells #[.int .i64 0, .string ⟨#[]⟩, .string ⟨#[]⟩] 27)).heap.size 0 (c + 1) l) := hide ⟨by have := unhide HL; omega, by unfold maxLen; omega, by rw [hw1]; simp, fun i hi => by
    rw [hw1, World.cell?_alloc_at _ _ _ _ rfl, Nat.zero_add, List.getD_eq_getElem?_getD]
    simp [hi]⟩
  generalize (w.alloc (.cells #[.int .i64 0, .string ⟨#[]⟩, .string ⟨#[]⟩] 27)).heap.size = g at *
  rw [show c + 1 = l.length from (unhide HL).symm] at S1 ⊢
  clear hw1 HSP B0 X0
  go_wp2_with fail
  refine (unhide HSW g _ w1 (unhide S1) (fun i hi => Nat.le_trans (unhide HSM i hi) ht) ((unhide HE).below (unhide B1))).mono ?_
  rintro e w2 ⟨rfl, hb2⟩
  have B2 := hide ((unhide B1).trans (hb2.mono (unhide B1).size))
  have X2 := hide ((unhide X1).below hb2)
  clear hb2 B1 X1 S1 HSW HSM
  have hw2 : w.heap.size < w2.heap.size := (unhide X2).1
  have B3 := hide ((unhide B2).alloc (unhide B2).size (.cells #[.int .i64 z, .string lg, .string mp] 27))
  have X3 := hide ((unhide X2).alloc (.cells #[.int .i64 z, .string lg, .string mp] 27))
  have Y3 := hide (Blk.new w2 #[.int .i64 z, .string lg, .string mp] 27 w2.heap.size rfl)
  have HST := hide (fun wx => implStmT_any z lg mp wx (by have := (unhide HSS).1; unfold maxLen; omega) (by have := (unhide HSS).2; unfold maxLen; omega))
  go_wp2_with fail
  generalize w2.alloc (.cells #[.int .i64 z, .string lg, .string mp] 27) = w3 at *
  refine (unhide HST w3).mono ?_
  rintro e w4 ⟨rfl, hb4⟩
  have B4 := hide ((unhide B3).trans (hb4.mono (unhide B3).size))
  have X4 := hide ((unhide X3).below hb4)
  have Y4 := hide ((unhide Y3).below hb4)
  clear hb4 B3 X3 Y3 HST B2 X2
  have q0 := (unhide X4).fro 0
  have q1 := (unhide X4).fro 1
  have q2 := (unhide X4).fro 2
  have r0 := (unhide X4).cell 0 rfl
  have r1 := (unhide X4).cell 1 rfl
  have r2 := (unhide X4).cell 2 rfl
  have c0 := (unhide Y4).cell 0 rfl
  have c1 := (unhide Y4).cell 1 rfl
  have c2 := (unhide Y4).cell 2 rfl
  have hne1 : w.heap.size ≠ w2.heap.size := by omega
  have hne2 : w2.heap.size ≠ w.heap.size := by omega
  have HOO : Hid (rsO t (z, lg, mp) = if stmB z lg mp = true ∧ stmT z.toNat lg mp = t then ((z, lg, mp), 0) else ((0, ⟨#[]⟩, ⟨#[]⟩), 3)) := hide rfl
  rw [unhide HOO] at HO
  clear HOO
  have NO : Hid (∀ W, Blk W w.heap.size [.int .i64 0, .string ⟨#[]⟩, .string ⟨#[]⟩] → Below w.heap.size w W → True) := hide (fun _ _ _ => trivial)
  cases hB : stmB z lg mp
  · have e1 := hide (stmOut_no hB)
    rw [if_neg (by rw [hB]; simp)] at HO
    clear hB
    generalize stmOut z lg mp = so at *
    obtain ⟨so1, so2⟩ := so
    obtain ⟨rfl, rfl⟩ := Prod.mk.inj (unhide e1)
    clear e1
    go_wp2_with fail
    have F := ((((unhide X4).set 0 (.int .i64 0) (by simp)).set 1 (.string ⟨#[]⟩) (by simp)).set 2 (.string ⟨#[]⟩) (by simp))
    have e0 := F.cell 0 rfl
    have e1 := F.cell 1 rfl
    have e2 := F.cell 2 rfl
    refine bodyPost_ret (v := .tuple #[.agg #[.int .i64 0, .string ⟨#[]⟩, .string ⟨#[]⟩], .int .i64 3]) (by simp [results, Tryd.results12, go_sem, e0, e1, e2]) rfl ⟨by rw [unhide HO]; rfl, ?_⟩
    exact ((((unhide B4).setCell (p := ⟨w.heap.size, 0, none⟩) (Nat.le_refl _) _).setCell (p := ⟨w.heap.size, 1, none⟩) (Nat.le_refl _) _).setCell (p := ⟨w.heap.size, 2, none⟩) (Nat.le_refl _) _)
  · have e1 := hide (stmOut_yes hB)
    by_cases hT : stmT z.toNat lg mp = t
    · rw [if_pos ⟨hB, hT⟩] at HO
      rw [hT] at e1
      clear hB hT
      generalize stmOut z lg mp = so at *
      obtain ⟨so1, so2⟩ := so
      obtain ⟨rfl, rfl⟩ := Prod.mk.inj (unhide e1)
      clear e1
      go_wp2_with fail
      have F := ((((unhide X4).set 0 (.int .i64 z) (by simp)).set 1 (.string lg) (by simp)).set 2 (.string mp) (by simp))
      have e0 := F.cell 0 rfl
      have e1 := F.cell 1 rfl
      have e2 := F.cell 2 rfl
      refine bodyPost_ret (v := .tuple #[.agg #[.int .i64 z, .string lg, .string mp], .int .i64 0]) (by simp [results, Tryd.results12, go_sem, e0, e1, e2]) rfl ⟨by rw [unhide HO]; rfl, ?_⟩
      exact ((((unhide B4).setCell (p := ⟨w.heap.size, 0, none⟩) (Nat.le_refl _) _).setCell (p := ⟨w.heap.size, 1, none⟩) (Nat.le_refl _) _).setCell (p := ⟨w.heap.size, 2, none⟩) (Nat.le_refl _) _)
    · rw [if_neg (by rintro ⟨_, h⟩; exact hT h)] at HO
      have hn := textNe hT
      clear hB hT
      generalize stmT z.toNat lg mp = tx at *
      generalize stmOut z lg mp = so at *
      obtain ⟨so1, so2⟩ := so
      obtain ⟨rfl, rfl⟩ := Prod.mk.inj (unhide e1)
      clear e1
      go_wp2_with fail
      have F := ((((unhide X4).set 0 (.int .i64 0) (by simp)).set 1 (.string ⟨#[]⟩) (by simp)).set 2 (.string ⟨#[]⟩) (by simp))
      have e0 := F.cell 0 rfl
      have e1 := F.cell 1 rfl
      have e2 := F.cell 2 rfl
      refine bodyPost_ret (v := .tuple #[.agg #[.int .i64 0, .string ⟨#[]⟩, .string ⟨#[]⟩], .int .i64 3]) (by simp [results, Tryd.results12, go_sem, e0, e1, e2]) rfl ⟨by rw [unhide HO]; rfl, ?_⟩
      exact ((((unhide B4).setCell (p := ⟨w.heap.size, 0, none⟩) (Nat.le_refl _) _).setCell (p := ⟨w.heap.size, 1, none⟩) (Nat.le_refl _) _).setCell (p := ⟨w.heap.size, 2, none⟩) (Nat.le_refl _) _)
end Go.Proofs.YtiiaehajcomfaaaDoor.Sha
