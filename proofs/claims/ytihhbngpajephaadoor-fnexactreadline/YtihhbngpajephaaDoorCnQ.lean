/- A line, read by the specification. (Written by py/cnq.py.) -/
import Derived.Test.YtihhbngpajephaaDoorCnP
import Derived.Test.YtihhbngpajephaaDoorCnO
import Derived.Test.YtihhbngpajephaaDoorWrdA
namespace Go.Proofs.YtihhbngpajephaaDoor.Sha
open Go.ChangeShapes Go.WideShapes Go.ChangeAt Go.RowKit
set_option linter.unusedVariables false
set_option linter.unusedSimpArgs false

def rlL (y : (Int × Int × Int × ByteArray × ByteArray) × ByteArray × ByteArray × Bool) : (Int × Int × Int × ByteArray × ByteArray) × ByteArray × Int :=
  if y.2.2.2 = true then (y.1, sayT y.2.1 y.2.2.1, 0) else ((0, 0, 0, ⟨#[]⟩, ⟨#[]⟩), ⟨#[]⟩, 3)
/-- What the specification tells of a line. -/
def rlS (s : ByteArray) : (Int × Int × Int × ByteArray × ByteArray) × ByteArray × Int :=
  if 65536 < s.size then ((0, 0, 0, ⟨#[]⟩, ⟨#[]⟩), ⟨#[]⟩, 2)
  else if (wordsL s).length = 0 then ((0, 0, 0, ⟨#[]⟩, ⟨#[]⟩), ⟨#[]⟩, 3)
  else rlL (l17P (wordsL s))
theorem ba_nil {t : ByteArray} (h : t.size = 0) : t = ⟨#[]⟩ := by
  cases t with | mk a => exact congrArg ByteArray.mk (Array.eq_empty_of_size_eq_zero h)
theorem l17P_size {n : Nat} {l : List ByteArray} (hz : ∀ i, (l.getD i ByteArray.empty).size ≤ n) (hn : 2 ≤ n) : (l17P l).2.1.size ≤ n ∧ (l17P l).2.2.1.size ≤ n := by
  have z0 : (⟨#[]⟩ : ByteArray).size ≤ n := Nat.zero_le _
  have z2 : (⟨#[100, 111]⟩ : ByteArray).size ≤ n := hn
  unfold l17P
  dsimp only
  repeat' split
  all_goals first | exact ⟨hz 0, z0⟩ | exact ⟨hz 0, hz 1⟩ | exact ⟨z0, z0⟩ | exact ⟨z2, z0⟩
set_option maxRecDepth 100000 in
set_option maxHeartbeats 8000000 in
theorem specReadLine_any (s : ByteArray) (w : World) (hs : s.size ≤ 1048576) :
    Calls Tryd.prog 4 #[.string s] w fun e w' => rlE (rlS s) w e w' := by
  have B0 := hide ((Below.refl w.heap.size w).alloc (Nat.le_refl _) (.cells #[.int .i64 0, .int .i64 0, .int .i64 0, .string ⟨#[]⟩, .string ⟨#[]⟩] 23))
  have D0 := hide (Blk.new w #[.int .i64 0, .int .i64 0, .int .i64 0, .string ⟨#[]⟩, .string ⟨#[]⟩] 23 w.heap.size rfl)
  have HO := hide (show rlS s = if 65536 < s.size then ((0, 0, 0, ⟨#[]⟩, ⟨#[]⟩), ⟨#[]⟩, 2) else if (wordsL s).length = 0 then ((0, 0, 0, ⟨#[]⟩, ⟨#[]⟩), ⟨#[]⟩, 3) else rlL (l17P (wordsL s)) from rfl)
  generalize rlS s = x at *
  go_enter Tryd.func4, Tryd.ntmps4
  go_upto_region 1 with fail
  generalize w.alloc (.cells #[.int .i64 0, .int .i64 0, .int .i64 0, .string ⟨#[]⟩, .string ⟨#[]⟩] 23) = w0 at *
  by_cases hbig : 65536 < s.size
  · have e := (unhide HO).trans (if_pos hbig)
    subst e
    have hi : decide ((s.size : Int) > 65536) = true := decide_eq_true (by omega)
    have hT := (((((Touch.refl (fun x => x = w.heap.size) w0).setCell ⟨w.heap.size, 0, none⟩ (.int .i64 0) (fun _ => rfl)).setCell ⟨w.heap.size, 1, none⟩ (.int .i64 0) (fun _ => rfl)).setCell ⟨w.heap.size, 2, none⟩ (.int .i64 0) (fun _ => rfl)).setCell ⟨w.heap.size, 3, none⟩ (.string ⟨#[]⟩) (fun _ => rfl)).setCell ⟨w.heap.size, 4, none⟩ (.string ⟨#[]⟩) (fun _ => rfl)
    have HY := hide ((((((unhide D0).set 0 (.int .i64 0) (by simp)).set 1 (.int .i64 0) (by simp)).set 2 (.int .i64 0) (by simp)).set 3 (.string ⟨#[]⟩) (by simp)).set 4 (.string ⟨#[]⟩) (by simp))
    have HK := hide ((unhide B0).trans (hT.below (unhide B0).size (fun x hx e => by omega)))
    obtain ⟨⟨x0, x1, x2, x3, x4⟩, g0, g1, g2, g3, g4⟩ := Blk.c5x (unhide D0)
    clear hT D0 B0 HO
    go_wp2_with fail
    obtain ⟨⟨z0, z1, z2, z3, z4⟩, _⟩ := Blk.c5x (unhide HY)
    refine bodyPost_ret (v := .tuple #[.agg #[.int .i64 0, .int .i64 0, .int .i64 0, .string ⟨#[]⟩, .string ⟨#[]⟩], .string ⟨#[]⟩, .int .i64 2]) (by simp [results, Tryd.results4, go_sem, z0, z1, z2, z3, z4]) rfl ?_
    exact ⟨rfl, unhide HK⟩
  · have E := hide ((unhide HO).trans (if_neg hbig))
    have hi : decide ((s.size : Int) > 65536) = false := decide_eq_false (by omega)
    have HW := hide (fun wx => l00Words_any s wx (by omega))
    have HZ := hide (fun i => Nat.le_trans (word_size s i) (show s.size ≤ 65536 by omega))
    clear HO hbig
    generalize wordsL s = l at *
    go_wp2_with fail
    refine (unhide HW _).mono ?_
    rintro e w1 ⟨u, rfl, ho, hb⟩
    have B1 := hide ((unhide B0).trans (hb.mono (unhide B0).size))
    have D1 := hide ((unhide D0).below hb)
    obtain ⟨a, cap, rfl, hm, hc⟩ := ho.strs
    clear HW B0 D0 hb hi hs
    by_cases h0 : l.length = 0
    · replace E := hide ((unhide E).trans (if_pos h0))
      have e := unhide E
      subst e
      have hl : ((l.length : Int) == 0) = true := beq_iff_eq.2 (by omega)
      clear hc ho
      have hT := (((((Touch.refl (fun x => x = w.heap.size) w1).setCell ⟨w.heap.size, 0, none⟩ (.int .i64 0) (fun _ => rfl)).setCell ⟨w.heap.size, 1, none⟩ (.int .i64 0) (fun _ => rfl)).setCell ⟨w.heap.size, 2, none⟩ (.int .i64 0) (fun _ => rfl)).setCell ⟨w.heap.size, 3, none⟩ (.string ⟨#[]⟩) (fun _ => rfl)).setCell ⟨w.heap.size, 4, none⟩ (.string ⟨#[]⟩) (fun _ => rfl)
      have HY := hide ((((((unhide D1).set 0 (.int .i64 0) (by simp)).set 1 (.int .i64 0) (by simp)).set 2 (.int .i64 0) (by simp)).set 3 (.string ⟨#[]⟩) (by simp)).set 4 (.string ⟨#[]⟩) (by simp))
      have HK := hide ((unhide B1).trans (hT.below (unhide B1).size (fun x hx e => by omega)))
      obtain ⟨⟨x0, x1, x2, x3, x4⟩, g0, g1, g2, g3, g4⟩ := Blk.c5x (unhide D1)
      clear hT D1 B1 E
      go_wp2_with fail
      obtain ⟨⟨z0, z1, z2, z3, z4⟩, _⟩ := Blk.c5x (unhide HY)
      refine bodyPost_ret (v := .tuple #[.agg #[.int .i64 0, .int .i64 0, .int .i64 0, .string ⟨#[]⟩, .string ⟨#[]⟩], .string ⟨#[]⟩, .int .i64 3]) (by simp [results, Tryd.results4, go_sem, z0, z1, z2, z3, z4]) rfl ?_
      exact ⟨rfl, unhide HK⟩
    · replace E := hide ((unhide E).trans (if_neg h0))
      have hl : ((l.length : Int) == 0) = false := beq_eq_false_iff_ne.2 (by omega)
      rcases hc with hc | ⟨b, off, rfl, hb1, hc⟩
      · exact absurd hc h0
      have HR := hide (l17Read_any b off cap l w1 (by omega) ⟨hm, hb1, hc, fun i => Nat.le_trans (unhide HZ i) (by omega)⟩ (unhide HZ))
      obtain ⟨hz1, hz2⟩ := l17P_size (unhide HZ) (by omega)
      generalize l17P l = y at *
      obtain ⟨⟨y0, y1, y2, y3, y4⟩, y5, y6, y7⟩ := y
      dsimp only at hz1 hz2
      clear hc ho HZ hb1 h0
      unfold maxLen at hm
      go_wp2_with fail
      refine (unhide HR).mono ?_
      rintro e w2 ⟨rfl, hb⟩
      have B2 := hide ((unhide B1).trans (hb.mono (unhide B1).size))
      have D2 := hide ((unhide D1).below hb)
      have B3 := hide ((unhide B2).alloc (unhide B2).size (.cells #[.int .i64 y0, .int .i64 y1, .int .i64 y2, .string y3, .string y4] 23))
      have D3 := hide ((unhide D2).alloc (.cells #[.int .i64 y0, .int .i64 y1, .int .i64 y2, .string y3, .string y4] 23))
      have C3 := hide (Blk.new w2 #[.int .i64 y0, .int .i64 y1, .int .i64 y2, .string y3, .string y4] 23 w2.heap.size rfl)
      have hlt := (unhide D2).1
      clear HR B1 D1 hb B2 D2
      cases y7 with
      | false =>
        have e := unhide E
        unfold rlL at e
        simp only [Bool.false_eq_true, if_false] at e
        subst e
        go_upto_region 7 with fail
        generalize w2.alloc (.cells #[.int .i64 y0, .int .i64 y1, .int .i64 y2, .string y3, .string y4] 23) = w3 at *
        clear C3
        have hT := (((((Touch.refl (fun x => x = w.heap.size) w3).setCell ⟨w.heap.size, 0, none⟩ (.int .i64 0) (fun _ => rfl)).setCell ⟨w.heap.size, 1, none⟩ (.int .i64 0) (fun _ => rfl)).setCell ⟨w.heap.size, 2, none⟩ (.int .i64 0) (fun _ => rfl)).setCell ⟨w.heap.size, 3, none⟩ (.string ⟨#[]⟩) (fun _ => rfl)).setCell ⟨w.heap.size, 4, none⟩ (.string ⟨#[]⟩) (fun _ => rfl)
        have HY := hide ((((((unhide D3).set 0 (.int .i64 0) (by simp)).set 1 (.int .i64 0) (by simp)).set 2 (.int .i64 0) (by simp)).set 3 (.string ⟨#[]⟩) (by simp)).set 4 (.string ⟨#[]⟩) (by simp))
        have HK := hide ((unhide B3).trans (hT.below (unhide B3).size (fun x hx e => by omega)))
        obtain ⟨⟨x0, x1, x2, x3, x4⟩, g0, g1, g2, g3, g4⟩ := Blk.c5x (unhide D3)
        clear hT D3 B3 E
        go_wp2_with fail
        obtain ⟨⟨z0, z1, z2, z3, z4⟩, _⟩ := Blk.c5x (unhide HY)
        refine bodyPost_ret (v := .tuple #[.agg #[.int .i64 0, .int .i64 0, .int .i64 0, .string ⟨#[]⟩, .string ⟨#[]⟩], .string ⟨#[]⟩, .int .i64 3]) (by simp [results, Tryd.results4, go_sem, z0, z1, z2, z3, z4]) rfl ?_
        exact ⟨rfl, unhide HK⟩
      | true =>
        have e : x = ((y0, y1, y2, y3, y4), sayT y5 y6, 0) := unhide E
        have hs1 : y6.size = 0 → sayT y5 y6 = y5 := fun h => if_pos h
        have hs2 : ¬ y6.size = 0 → sayT y5 y6 = y5 ++ (⟨#[32]⟩ ++ y6) := fun h => (if_neg h).trans ByteArray.append_assoc
        replace E := hide e
        have HS1 := hide hs1
        have HS2 := hide hs2
        clear e hs1 hs2
        go_upto_region 7 with fail
        generalize w2.alloc (.cells #[.int .i64 y0, .int .i64 y1, .int .i64 y2, .string y3, .string y4] 23) = w3 at *
        generalize w2.heap.size = cb at *
        obtain ⟨⟨n0, n1, n2, n3, n4⟩, _⟩ := Blk.c5x (unhide C3)
        clear C3
        by_cases h : y6.size = 0
        · have e := (unhide E).trans (by rw [unhide HS1 h])
          replace E := hide (show x = ((y0, y1, y2, y3, y4), y5, 0) from e)
          clear e HS1 HS2
          have hnil := ba_nil h
          subst hnil
          clear h
          have hT := (((((Touch.refl (fun x => x = w.heap.size) w3).setCell ⟨w.heap.size, 0, none⟩ (.int .i64 y0) (fun _ => rfl)).setCell ⟨w.heap.size, 1, none⟩ (.int .i64 y1) (fun _ => rfl)).setCell ⟨w.heap.size, 2, none⟩ (.int .i64 y2) (fun _ => rfl)).setCell ⟨w.heap.size, 3, none⟩ (.string y3) (fun _ => rfl)).setCell ⟨w.heap.size, 4, none⟩ (.string y4) (fun _ => rfl)
          have HY := hide ((((((unhide D3).set 0 (.int .i64 y0) (by simp)).set 1 (.int .i64 y1) (by simp)).set 2 (.int .i64 y2) (by simp)).set 3 (.string y3) (by simp)).set 4 (.string y4) (by simp))
          have HK := hide ((unhide B3).trans (hT.below (unhide B3).size (fun x hx e => by omega)))
          obtain ⟨⟨x0, x1, x2, x3, x4⟩, g0, g1, g2, g3, g4⟩ := Blk.c5x (unhide D3)
          clear hT D3 B3 
          go_wp2_with fail
          obtain ⟨⟨z0, z1, z2, z3, z4⟩, _⟩ := Blk.c5x (unhide HY)
          refine bodyPost_ret (v := .tuple #[.agg #[.int .i64 y0, .int .i64 y1, .int .i64 y2, .string y3, .string y4], .string y5, .int .i64 0]) (by simp [results, Tryd.results4, go_sem, z0, z1, z2, z3, z4]) rfl ?_
          exact ⟨by rw [unhide E], unhide HK⟩
        · have e := (unhide E).trans (by rw [unhide HS2 h])
          replace E := hide (show x = ((y0, y1, y2, y3, y4), y5 ++ (⟨#[32]⟩ ++ y6), 0) from e)
          clear e HS1 HS2
          have hq : (y6.toList == []) = false := by
            rw [beq_eq_false_iff_ne]
            intro e
            rw [ByteArray.toList_eq] at e
            have : y6.data.toList.length = 0 := by rw [e]; rfl
            exact h (by simpa using this)
          have hq1 : 1 + y6.size ≤ 9223372036854775807 := by omega
          have hq2 : y5.size + (1 + y6.size) ≤ 9223372036854775807 := by omega
          clear h
          have hT := (((((Touch.refl (fun x => x = w.heap.size) w3).setCell ⟨w.heap.size, 0, none⟩ (.int .i64 y0) (fun _ => rfl)).setCell ⟨w.heap.size, 1, none⟩ (.int .i64 y1) (fun _ => rfl)).setCell ⟨w.heap.size, 2, none⟩ (.int .i64 y2) (fun _ => rfl)).setCell ⟨w.heap.size, 3, none⟩ (.string y3) (fun _ => rfl)).setCell ⟨w.heap.size, 4, none⟩ (.string y4) (fun _ => rfl)
          have HY := hide ((((((unhide D3).set 0 (.int .i64 y0) (by simp)).set 1 (.int .i64 y1) (by simp)).set 2 (.int .i64 y2) (by simp)).set 3 (.string y3) (by simp)).set 4 (.string y4) (by simp))
          have HK := hide ((unhide B3).trans (hT.below (unhide B3).size (fun x hx e => by omega)))
          obtain ⟨⟨x0, x1, x2, x3, x4⟩, g0, g1, g2, g3, g4⟩ := Blk.c5x (unhide D3)
          clear hT D3 B3 
          go_wp2_with fail
          obtain ⟨⟨z0, z1, z2, z3, z4⟩, _⟩ := Blk.c5x (unhide HY)
          refine bodyPost_ret (v := .tuple #[.agg #[.int .i64 y0, .int .i64 y1, .int .i64 y2, .string y3, .string y4], .string (y5 ++ ((⟨#[32]⟩ : ByteArray) ++ y6)), .int .i64 0]) (by simp [results, Tryd.results4, go_sem, z0, z1, z2, z3, z4]) rfl ?_
          exact ⟨by rw [unhide E], unhide HK⟩
end Go.Proofs.YtihhbngpajephaaDoor.Sha
