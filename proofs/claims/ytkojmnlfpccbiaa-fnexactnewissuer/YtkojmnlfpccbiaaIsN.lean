/- NewIssuer, in both packages; the marks of flags that lie in an array. -/
import Derived.Test.YtkojmnlfpccbiaaIsF
import Derived.Test.YtkojmnlfpccbiaaIsM
import Derived.Test.YtkojmnlfpccbiaaIsB
import Derived.Deep.Cut
namespace Go.Proofs.Ytkojmnlfpccbiaa
open Go.ChangeShapes Go.WideShapes Go.ChangeAt Go.RowKit Go.Deep
set_option linter.unusedVariables false
set_option linter.unusedSimpArgs false
set_option maxRecDepth 100000

/-- What a new issuer is. -/
def niOut (s : ByteArray) : ByteArray × List Bool × Int := if hfC s = 0 then (s, [false, false, false, false], 0) else (⟨#[]⟩, [], hfC s)
theorem niOut_len (s : ByteArray) : (niOut s).2.1.length ≤ 4 := by unfold niOut; split <;> simp
set_option maxHeartbeats 4000000 in
theorem implNewIssuer_any (s : ByteArray) (w : World) (hs : s.size ≤ 1048576) :
    Calls Try.prog 6 #[.string s] w fun e w' => ∃ v, e = .returned (.tuple #[.agg #[.string (niOut s).1, v, .int .i64 0, .string ⟨#[]⟩, .string ⟨#[]⟩, .bool false, .int .i64 0], .int .i64 (niOut s).2.2]) ∧ FlO w.heap.size w' v (niOut s).2.1 ∧ Below w.heap.size w w' := by
  have H1 := hide (fun wx => hashFault_any s wx (by unfold maxLen; omega))
  have K0 := hide ((Below.refl w.heap.size w).alloc (Nat.le_refl _) (.cells #[.string ⟨#[]⟩, .slice none 0 0, .int .i64 0, .string ⟨#[]⟩, .string ⟨#[]⟩, .bool false, .int .i64 0] 28))
  have R0 := hide (Blk.new w #[.string ⟨#[]⟩, .slice none 0 0, .int .i64 0, .string ⟨#[]⟩, .string ⟨#[]⟩, .bool false, .int .i64 0] 28 w.heap.size rfl)
  have HS := hide hs
  by_cases h0 : hfC s = 0
  · have E : niOut s = (s, [false, false, false, false], 0) := by unfold niOut; rw [if_pos h0]
    rw [E]
    rw [h0] at H1
    have HP := hide (fun wx p g off cap h => issuer_any p g off cap s 0 ⟨#[]⟩ ⟨#[]⟩ 0 false false false false wx h hs (Nat.zero_le _) (Nat.zero_le _))
    clear E h0 hs
    obtain ⟨i0, hi, hz0, hz1, hz2⟩ := info_parts4
    go_enter Try.func6, Try.ntmps6
    go_wp2_with fail
    generalize w.alloc (.cells #[.string ⟨#[]⟩, .slice none 0 0, .int .i64 0, .string ⟨#[]⟩, .string ⟨#[]⟩, .bool false, .int .i64 0] 28) = w0 at *
    refine (unhide H1 w0).mono ?_
    rintro e w' ⟨rfl, rfl⟩
    have hw0 := (unhide R0).1
    have e3 : (Value.bool false).cells = #[Value.bool false] := rfl
    go_wp2_with (at_make; refine wpList_make_full _ rfl _ _ 22 rfl w'.heap.size 4 i0 _ 1 Try.underlying22 hi hz0 hz1 .i64 .i64 _ _ 4 rfl rfl rfl rfl (by rw [hz2]; omega) (by unfold maxLen; omega) (Nat.le_refl _) ?_; intro w1 hown1 hg1)
    have hb1 := (Below.refl w'.heap.size w').grown hg1 (Nat.le_refl _) (fun k h => by cases h)
    have e4 : (madeCells (Value.bool false).cells (4 * 1)).toList = [.bool false, .bool false, .bool false, .bool false] := by rw [e3, Nat.mul_one, toList_madeCells_one]; rfl
    rw [e4] at hown1
    have y0 := hown1.cellAt 0 (by omega)
    have y1 := hown1.cellAt 1 (by omega)
    have y2 := hown1.cellAt 2 (by omega)
    have y3 := hown1.cellAt 3 (by omega)
    have hyl : w'.heap.size < w1.heap.size := World.block_lt_of_cell? w1 _ y0
    have BB := (Below.refl w1.heap.size w1).alloc (Nat.le_refl _) (.cells #[.string s, .slice (some ⟨w'.heap.size, 0, none⟩) 4 4, .int .i64 0, .string ⟨#[]⟩, .string ⟨#[]⟩, .int .i64 0] 44)
    have N2 := hide (show NtyR (w1.alloc (.cells #[.string s, .slice (some ⟨w'.heap.size, 0, none⟩) 4 4, .int .i64 0, .string ⟨#[]⟩, .string ⟨#[]⟩, .int .i64 0] 44)) w1.heap.size w'.heap.size 0 4 s 0 ⟨#[]⟩ ⟨#[]⟩ 0 false false false false from ⟨Blk.new w1 #[.string s, .slice (some ⟨w'.heap.size, 0, none⟩) 4 4, .int .i64 0, .string ⟨#[]⟩, .string ⟨#[]⟩, .int .i64 0] 44 w1.heap.size rfl, (BB.cell (p := ⟨w'.heap.size, 0, none⟩) hyl).trans y0, (BB.cell (p := ⟨w'.heap.size, 1, none⟩) hyl).trans y1, (BB.cell (p := ⟨w'.heap.size, 2, none⟩) hyl).trans y2, (BB.cell (p := ⟨w'.heap.size, 3, none⟩) hyl).trans y3⟩)
    have K2 := hide (((unhide K0).trans (hb1.mono (unhide K0).size)).trans (BB.mono ((unhide K0).trans (hb1.mono (unhide K0).size)).size))
    have R2 := hide (((unhide R0).below hb1).below BB)
    clear hown1 hg1 hb1 e4 y0 y1 y2 y3 BB K0 R0 hi hz0 hz1 hz2 e3 hyl
    generalize w1.alloc (.cells #[.string s, .slice (some ⟨w'.heap.size, 0, none⟩) 4 4, .int .i64 0, .string ⟨#[]⟩, .string ⟨#[]⟩, .int .i64 0] 44) = w2 at *
    refine (unhide HP w2 _ _ _ _ (unhide N2)).mono ?_
    rintro e w3 ⟨ub, rfl, hO, hb⟩
    have R3 := (unhide R2).below hb
    have hr := (unhide R2).1
    have K3 := (unhide K2).trans (hb.mono (unhide K2).size)
    have hub : w.heap.size < ub := by have := (hO.lt ub rfl).1; omega
    have RF := hide (put7_blk R3 (.string s) (.slice (some ⟨ub, 0, none⟩) 4 4) (.int .i64 0) (.string ⟨#[]⟩) (.string ⟨#[]⟩) (.bool false) (.int .i64 0))
    have OF := hide (show FlO w.heap.size (put7 w3 w.heap.size (.string s) (.slice (some ⟨ub, 0, none⟩) 4 4) (.int .i64 0) (.string ⟨#[]⟩) (.string ⟨#[]⟩) (.bool false) (.int .i64 0)) (.slice (some ⟨ub, 0, none⟩) 4 4) [false, false, false, false] from (by
      have h := hO.kept (put7_touch w3 w.heap.size (.string s) (.slice (some ⟨ub, 0, none⟩) 4 4) (.int .i64 0) (.string ⟨#[]⟩) (.string ⟨#[]⟩) (.bool false) (.int .i64 0)) (fun k hk e => by cases hk; (try dsimp only at e); omega)
      rcases h with ⟨h, _⟩ | ⟨b, hv, hl, hB, hk⟩
      · cases h
      · exact .inr ⟨b, hv, hl, by omega, hk⟩))
    have KF := hide (K3.trans ((put7_touch w3 w.heap.size (.string s) (.slice (some ⟨ub, 0, none⟩) 4 4) (.int .i64 0) (.string ⟨#[]⟩) (.string ⟨#[]⟩) (.bool false) (.int .i64 0)).below K3.size (fun k hk e => by (try dsimp only at e); omega)))
    have r0 := R3.cell 0 rfl
    have q0 := R3.fro 0
    have r1 := R3.cell 1 rfl
    have q1 := R3.fro 1
    have r2 := R3.cell 2 rfl
    have q2 := R3.fro 2
    have r3 := R3.cell 3 rfl
    have q3 := R3.fro 3
    have r4 := R3.cell 4 rfl
    have q4 := R3.fro 4
    have r5 := R3.cell 5 rfl
    have q5 := R3.fro 5
    have r6 := R3.cell 6 rfl
    have q6 := R3.fro 6
    have e5 : decide ((0 : Int) < 0) = false := by decide
    clear R3 K3 hO hb R2 K2 N2 HP
    go_wp2_with fail
    change bodyPost _ _ _ _ _ (put7 w3 w.heap.size (.string s) (.slice (some ⟨ub, 0, none⟩) 4 4) (.int .i64 0) (.string ⟨#[]⟩) (.string ⟨#[]⟩) (.bool false) (.int .i64 0))
    generalize put7 w3 w.heap.size (.string s) (.slice (some ⟨ub, 0, none⟩) 4 4) (.int .i64 0) (.string ⟨#[]⟩) (.string ⟨#[]⟩) (.bool false) (.int .i64 0) = w4 at *
    have s0 := (unhide RF).cell 0 rfl
    have s1 := (unhide RF).cell 1 rfl
    have s2 := (unhide RF).cell 2 rfl
    have s3 := (unhide RF).cell 3 rfl
    have s4 := (unhide RF).cell 4 rfl
    have s5 := (unhide RF).cell 5 rfl
    have s6 := (unhide RF).cell 6 rfl
    refine bodyPost_ret (v := .tuple #[.agg #[.string s, .slice (some ⟨ub, 0, none⟩) 4 4, .int .i64 0, .string ⟨#[]⟩, .string ⟨#[]⟩, .bool false, .int .i64 0], .int .i64 0]) (by simp [results, Try.results6, go_sem, s0, s1, s2, s3, s4, s5, s6]) rfl ?_
    exact ⟨_, rfl, unhide OF, unhide KF⟩
  · have E : niOut s = (⟨#[]⟩, [], hfC s) := by unfold niOut; rw [if_neg h0]
    rw [E]
    clear E hs
    generalize hfC s = c at *
    go_enter Try.func6, Try.ntmps6
    go_wp2_with fail
    generalize w.alloc (.cells #[.string ⟨#[]⟩, .slice none 0 0, .int .i64 0, .string ⟨#[]⟩, .string ⟨#[]⟩, .bool false, .int .i64 0] 28) = w0 at *
    refine (unhide H1 w0).mono ?_
    rintro e w' ⟨rfl, rfl⟩
    have hr := (unhide R0).1
    have PZ := put7_touch w' w.heap.size (.string ⟨#[]⟩) (.slice none 0 0) (.int .i64 0) (.string ⟨#[]⟩) (.string ⟨#[]⟩) (.bool false) (.int .i64 0)
    have RF := hide (put7_blk (unhide R0) (.string ⟨#[]⟩) (.slice none 0 0) (.int .i64 0) (.string ⟨#[]⟩) (.string ⟨#[]⟩) (.bool false) (.int .i64 0))
    have KF := hide ((unhide K0).trans (PZ.below (unhide K0).size (fun k hk e => by (try dsimp only at e); omega)))
    have r0 := (unhide R0).cell 0 rfl
    have q0 := (unhide R0).fro 0
    have r1 := (unhide R0).cell 1 rfl
    have q1 := (unhide R0).fro 1
    have r2 := (unhide R0).cell 2 rfl
    have q2 := (unhide R0).fro 2
    have r3 := (unhide R0).cell 3 rfl
    have q3 := (unhide R0).fro 3
    have r4 := (unhide R0).cell 4 rfl
    have q4 := (unhide R0).fro 4
    have r5 := (unhide R0).cell 5 rfl
    have q5 := (unhide R0).fro 5
    have r6 := (unhide R0).cell 6 rfl
    have q6 := (unhide R0).fro 6
    have e5 : (c == 0) = false := by simp [h0]
    have e6 : (c != 0) = true := by simp [h0]
    clear PZ K0 R0
    go_wp2_with fail
    change bodyPost _ _ _ _ _ (put7 w' w.heap.size (.string ⟨#[]⟩) (.slice none 0 0) (.int .i64 0) (.string ⟨#[]⟩) (.string ⟨#[]⟩) (.bool false) (.int .i64 0))
    generalize put7 w' w.heap.size (.string ⟨#[]⟩) (.slice none 0 0) (.int .i64 0) (.string ⟨#[]⟩) (.string ⟨#[]⟩) (.bool false) (.int .i64 0) = w4 at *
    have s0 := (unhide RF).cell 0 rfl
    have s1 := (unhide RF).cell 1 rfl
    have s2 := (unhide RF).cell 2 rfl
    have s3 := (unhide RF).cell 3 rfl
    have s4 := (unhide RF).cell 4 rfl
    have s5 := (unhide RF).cell 5 rfl
    have s6 := (unhide RF).cell 6 rfl
    refine bodyPost_ret (v := .tuple #[.agg #[.string ⟨#[]⟩, .slice none 0 0, .int .i64 0, .string ⟨#[]⟩, .string ⟨#[]⟩, .bool false, .int .i64 0], .int .i64 c]) (by simp [results, Try.results6, go_sem, s0, s1, s2, s3, s4, s5, s6]) rfl ?_
    exact ⟨_, rfl, .inl ⟨rfl, rfl⟩, unhide KF⟩
set_option maxHeartbeats 4000000 in
theorem specNewIssuer_any (s : ByteArray) (w : World) (hs : s.size ≤ 1048576) :
    Calls Try.prog 5 #[.string s] w fun e w' => ∃ v, e = .returned (.tuple #[.agg #[.string (niOut s).1, v, .int .i64 0, .string ⟨#[]⟩, .string ⟨#[]⟩, .bool false, .int .i64 0], .int .i64 (niOut s).2.2]) ∧ Bos w' v (niOut s).2.1 ∧ Below w.heap.size w w' := by
  have K0 := hide ((Below.refl w.heap.size w).alloc (Nat.le_refl _) (.cells #[.string ⟨#[]⟩, .slice none 0 0, .int .i64 0, .string ⟨#[]⟩, .string ⟨#[]⟩, .bool false, .int .i64 0] 28))
  have R0 := hide (Blk.new w #[.string ⟨#[]⟩, .slice none 0 0, .int .i64 0, .string ⟨#[]⟩, .string ⟨#[]⟩, .bool false, .int .i64 0] 28 w.heap.size rfl)
  by_cases h1 : 65536 < s.size
  · have E : niOut s = (⟨#[]⟩, [], 2) := by unfold niOut hfC; simp [h1]
    rw [E]
    clear E
    go_enter Try.func5, Try.ntmps5
    go_wp2_with fail
    generalize w.alloc (.cells #[.string ⟨#[]⟩, .slice none 0 0, .int .i64 0, .string ⟨#[]⟩, .string ⟨#[]⟩, .bool false, .int .i64 0] 28) = w4 at *
    have s0 := (unhide R0).cell 0 rfl
    have s1 := (unhide R0).cell 1 rfl
    have s2 := (unhide R0).cell 2 rfl
    have s3 := (unhide R0).cell 3 rfl
    have s4 := (unhide R0).cell 4 rfl
    have s5 := (unhide R0).cell 5 rfl
    have s6 := (unhide R0).cell 6 rfl
    refine bodyPost_ret (v := .tuple #[.agg #[.string ⟨#[]⟩, .slice none 0 0, .int .i64 0, .string ⟨#[]⟩, .string ⟨#[]⟩, .bool false, .int .i64 0], .int .i64 2]) (by simp [results, Try.results5, go_sem, s0, s1, s2, s3, s4, s5, s6]) rfl ?_
    exact ⟨_, rfl, ⟨none, 0, rfl, by unfold maxLen; simp, .inl rfl⟩, unhide K0⟩
  by_cases h2 : s.size = 32
  · have E : niOut s = (s, [false, false, false, false], 0) := by unfold niOut hfC; simp [h2]
    rw [E]
    clear E
    have h3 : (s.size : Int) = 32 := by omega
    obtain ⟨i0, hi, hz0, hz1, hz2⟩ := info_parts4
    have e3 : (Value.bool false).cells = #[Value.bool false] := rfl
    go_enter Try.func5, Try.ntmps5
    go_upto_region 5 with fail
    generalize w.alloc (.cells #[.string ⟨#[]⟩, .slice none 0 0, .int .i64 0, .string ⟨#[]⟩, .string ⟨#[]⟩, .bool false, .int .i64 0] 28) = w0 at *
    have hw0 := (unhide R0).1
    go_wp2_with (at_make; refine wpList_make_full _ rfl _ _ 22 rfl w0.heap.size 4 i0 _ 1 Try.underlying22 hi hz0 hz1 .i64 .i64 _ _ 4 rfl rfl rfl rfl (by rw [hz2]; omega) (by unfold maxLen; omega) (Nat.le_refl _) ?_; intro w1 hown1 hg1; have R1 := (unhide R0).below ((Below.refl w0.heap.size w0).grown hg1 (Nat.le_refl _) (fun k h => by cases h)); have r0 := R1.cell 0 rfl; have q0 := R1.fro 0; have r1 := R1.cell 1 rfl; have q1 := R1.fro 1; have r2 := R1.cell 2 rfl; have q2 := R1.fro 2; have r3 := R1.cell 3 rfl; have q3 := R1.fro 3; have r4 := R1.cell 4 rfl; have q4 := R1.fro 4; have r5 := R1.cell 5 rfl; have q5 := R1.fro 5; have r6 := R1.cell 6 rfl; have q6 := R1.fro 6)
    have e4 : (madeCells (Value.bool false).cells (4 * 1)).toList = [.bool false, .bool false, .bool false, .bool false] := by rw [e3, Nat.mul_one, toList_madeCells_one]; rfl
    rw [e4] at hown1
    have hO : OwnBo w0.heap.size w1 (.slice (some ⟨w0.heap.size, 0, none⟩) 4 4) [false, false, false, false] := hown1
    have PT := put7_touch w1 w.heap.size (.string s) (.slice (some ⟨w0.heap.size, 0, none⟩) 4 4) (.int .i64 0) (.string ⟨#[]⟩) (.string ⟨#[]⟩) (.bool false) (.int .i64 0)
    have OF := hide ((hO.kept PT (fun k hk e => by cases hk; (try dsimp only at e); omega)).bos)
    have KF := hide (((unhide K0).trans (((Below.refl w0.heap.size w0).grown hg1 (Nat.le_refl _) (fun k h => by cases h)).mono (unhide K0).size)).trans (PT.below (Nat.le_trans (unhide K0).size ((Below.refl w0.heap.size w0).grown hg1 (Nat.le_refl _) (fun k h => by cases h)).size) (fun k hk e => by (try dsimp only at e); omega)))
    have RF := hide (put7_blk R1 (.string s) (.slice (some ⟨w0.heap.size, 0, none⟩) 4 4) (.int .i64 0) (.string ⟨#[]⟩) (.string ⟨#[]⟩) (.bool false) (.int .i64 0))
    change bodyPost _ _ _ _ _ (put7 w1 w.heap.size (.string s) (.slice (some ⟨w0.heap.size, 0, none⟩) 4 4) (.int .i64 0) (.string ⟨#[]⟩) (.string ⟨#[]⟩) (.bool false) (.int .i64 0))
    generalize put7 w1 w.heap.size (.string s) (.slice (some ⟨w0.heap.size, 0, none⟩) 4 4) (.int .i64 0) (.string ⟨#[]⟩) (.string ⟨#[]⟩) (.bool false) (.int .i64 0) = w4 at *
    have s0 := (unhide RF).cell 0 rfl
    have s1 := (unhide RF).cell 1 rfl
    have s2 := (unhide RF).cell 2 rfl
    have s3 := (unhide RF).cell 3 rfl
    have s4 := (unhide RF).cell 4 rfl
    have s5 := (unhide RF).cell 5 rfl
    have s6 := (unhide RF).cell 6 rfl
    refine bodyPost_ret (v := .tuple #[.agg #[.string s, .slice (some ⟨w0.heap.size, 0, none⟩) 4 4, .int .i64 0, .string ⟨#[]⟩, .string ⟨#[]⟩, .bool false, .int .i64 0], .int .i64 0]) (by simp [results, Try.results5, go_sem, s0, s1, s2, s3, s4, s5, s6]) rfl ?_
    exact ⟨_, rfl, unhide OF, unhide KF⟩
  · have E : niOut s = (⟨#[]⟩, [], 1) := by unfold niOut hfC; simp [h1, h2]
    rw [E]
    clear E
    have h3 : ¬ (s.size : Int) = 32 := by omega
    have h4 : ((s.size : Int) == 32) = false := by rw [beq_eq_false_iff_ne]; omega
    go_enter Try.func5, Try.ntmps5
    go_wp2_with fail
    generalize w.alloc (.cells #[.string ⟨#[]⟩, .slice none 0 0, .int .i64 0, .string ⟨#[]⟩, .string ⟨#[]⟩, .bool false, .int .i64 0] 28) = w4 at *
    have s0 := (unhide R0).cell 0 rfl
    have s1 := (unhide R0).cell 1 rfl
    have s2 := (unhide R0).cell 2 rfl
    have s3 := (unhide R0).cell 3 rfl
    have s4 := (unhide R0).cell 4 rfl
    have s5 := (unhide R0).cell 5 rfl
    have s6 := (unhide R0).cell 6 rfl
    refine bodyPost_ret (v := .tuple #[.agg #[.string ⟨#[]⟩, .slice none 0 0, .int .i64 0, .string ⟨#[]⟩, .string ⟨#[]⟩, .bool false, .int .i64 0], .int .i64 1]) (by simp [results, Try.results5, go_sem, s0, s1, s2, s3, s4, s5, s6]) rfl ?_
    exact ⟨_, rfl, ⟨none, 0, rfl, by unfold maxLen; simp, .inl rfl⟩, unhide K0⟩
/-- Flags in an array, marked. -/
theorem mrow4 : mrow 1 4 = [mbo 1, mbo 2, mbo 3, mbo 4] := by decide
set_option maxHeartbeats 2000000 in
theorem markFlags_any (B : Nat) (v : Value) (l : List Bool) (w : World) (h : FlO B w v l) :
    Calls Try.prog 33 #[v, .int .i64 1] w fun e w' => e = .returned (.int .i64 (1 + (l.length : Int))) ∧ FlO B w' v (mrow 1 l.length) ∧ Touch (fun k => v.ownBlock = some k) w w' := by
  rcases h with ⟨rfl, rfl⟩ | ⟨b, rfl, hl, hB, hk⟩
  · refine (markBoolS_at 1 (by omega) B (.slice none 0 0) [] w (OwnBo.nil B w) (by simp)).mono ?_
    rintro e w' ⟨rfl, hO, hT⟩
    exact ⟨rfl, .inl ⟨rfl, rfl⟩, hT⟩
  · match l, hl with
    | [f0, f1, f2, f3], _ =>
      have HB := hide hB
      have HK := hide (show Blk w b [.bool f0, .bool f1, .bool f2, .bool f3] from hk)
      clear hk hB
      show Calls _ _ _ _ fun e w' => e = .returned (.int .i64 (1 + ((4 : Nat) : Int))) ∧ FlO B w' _ (mrow 1 4) ∧ _
      go_enter Try.func33, Try.ntmps33
      go_wp2_with fail
      go_loopw [1, 5] (fun k i wr => ∃ j : Nat, j ≤ 4 ∧ k = .int .i64 (1 + (j : Int)) ∧ i = .int .i64 j ∧ Blk wr b [.bool (if 0 < j then mbo 1 else f0), .bool (if 1 < j then mbo 2 else f1), .bool (if 2 < j then mbo 3 else f2), .bool (if 3 < j then mbo 4 else f3)] ∧ Touch (fun k => (Value.slice (some ⟨b, 0, none⟩) 4 4).ownBlock = some k) w wr) (fun _ i _ => 4 - (intOf i).toNat)
      case atStart => exact ⟨0, Nat.zero_le _, rfl, rfl, unhide HK, Touch.refl _ _⟩
      case round =>
        obtain ⟨j, hj, rfl, rfl, hL, hT⟩ := hrel
        by_cases hlt2 : j < 4
        · have p0 : (0 : Int) ≤ (j : Int) := by omega
          have p1 : (j : Int) < 4 := by omega
          obtain ⟨x, hc0⟩ : ∃ x, wr.cell? ⟨b, j, none⟩ = some (.bool x) := by
            rcases j with _ | _ | _ | _ | j
            · exact ⟨_, hL.cell 0 rfl⟩
            · exact ⟨_, hL.cell 1 rfl⟩
            · exact ⟨_, hL.cell 2 rfl⟩
            · exact ⟨_, hL.cell 3 rfl⟩
            · omega
          have hf0 := hL.fro j
          have q1 : IntKind.i64.wrap (1 + (j : Int) + 1) = 1 + (j : Int) + 1 := wrapOp _ (by omega) (by omega)
          have RT := hT.setCell ⟨b, j, none⟩ (.bool (mbo (1 + (j : Int)))) (fun _ => rfl)
          have RB : Blk (wr.setCell ⟨b, j, none⟩ (.bool (mbo (1 + (j : Int))))) b [.bool (if 0 < j + 1 then mbo 1 else f0), .bool (if 1 < j + 1 then mbo 2 else f1), .bool (if 2 < j + 1 then mbo 3 else f2), .bool (if 3 < j + 1 then mbo 4 else f3)] := by
            have h := hL.set j (.bool (mbo (1 + (j : Int)))) (by simpa using hlt2)
            rcases j with _ | _ | _ | _ | j
            · exact h
            · exact h
            · exact h
            · exact h
            · omega
          have R := hide (And.intro RB RT)
          have m2 : ((1 + (j : Int)) % 3 == 0) = mbo (1 + (j : Int)) := rfl
          clear hL hT RT RB
          generalize mbo (1 + (j : Int)) = z at *
          go_wp2_with fail
          refine ⟨⟨j + 1, by omega, congrArg (Value.int .i64) (by omega), by go_num, (unhide R).1, (unhide R).2⟩, ?_⟩
          simp [intOf]; omega
        · obtain rfl : j = 4 := by omega
          have R := hide (And.intro (show Blk wr b [.bool (mbo 1), .bool (mbo 2), .bool (mbo 3), .bool (mbo 4)] from hL) hT)
          clear hL hT
          go_wp2_with fail
          go_ret
          refine ⟨rfl, .inr ⟨b, rfl, by rw [mrow_len], unhide HB, ?_⟩, (unhide R).2⟩
          rw [mrow4]
          exact (unhide R).1
set_option maxHeartbeats 1000000 in
theorem markSignerF_any (sd : ByteArray) (B : Nat) (v : Value) (l : List Bool) (w : World) (h : FlO B w v l) :
    Calls Try.prog 18 #[.agg #[.string sd, v], .int .i64 1] w fun e w' => e = .returned (.int .i64 (1 + (l.length : Int))) ∧ FlO B w' v (mrow 1 l.length) ∧ Touch (fun k => v.ownBlock = some k) w w' := by
  have H0 := hide (h.below ((Below.refl w.heap.size w).alloc (Nat.le_refl _) (.cells #[.string sd, v] 24)))
  have HM := hide (markFlags_any B v l _ (unhide H0))
  have T0 := hide ((Touch.refl (fun k => v.ownBlock = some k) w).alloc (.cells #[.string sd, v] 24))
  obtain ⟨a, cap, rfl, _, _⟩ := h.bos
  clear h H0
  go_enter Try.func18, Try.ntmps18
  go_wp2_with fail
  refine (unhide HM).mono ?_
  rintro e w1 ⟨rfl, hO, hT⟩
  have R := hide (And.intro hO ((unhide T0).trans hT (fun _ _ e => e)))
  clear hO hT
  go_wp2_with fail
  go_ret
  exact ⟨rfl, (unhide R).1, (unhide R).2⟩
set_option maxHeartbeats 1000000 in
theorem markIssuerF_any (sd : ByteArray) (B : Nat) (v : Value) (z : Int) (lg mp : ByteArray) (hs : Bool) (c : Int) (l : List Bool) (w : World) (h : FlO B w v l) :
    Calls Try.prog 8 #[.agg #[.string sd, v, .int .i64 z, .string lg, .string mp, .bool hs, .int .i64 c], .int .i64 1] w fun e w' => e = .returned (.int .i64 (1 + (l.length : Int))) ∧ FlO B w' v (mrow 1 l.length) ∧ Touch (fun k => v.ownBlock = some k) w w' := by
  have H0 := hide (h.below ((Below.refl w.heap.size w).alloc (Nat.le_refl _) (.cells #[.string sd, v, .int .i64 z, .string lg, .string mp, .bool hs, .int .i64 c] 28)))
  have HM := hide (markSignerF_any sd B v l _ (unhide H0))
  have T0 := hide ((Touch.refl (fun k => v.ownBlock = some k) w).alloc (.cells #[.string sd, v, .int .i64 z, .string lg, .string mp, .bool hs, .int .i64 c] 28))
  obtain ⟨a, cap, rfl, _, _⟩ := h.bos
  clear h H0
  go_enter Try.func8, Try.ntmps8
  go_wp2_with fail
  refine (unhide HM).mono ?_
  rintro e w1 ⟨rfl, hO, hT⟩
  have R := hide (And.intro hO ((unhide T0).trans hT (fun _ _ e => e)))
  clear hO hT
  go_wp2_with fail
  go_ret
  exact ⟨rfl, (unhide R).1, (unhide R).2⟩
end Go.Proofs.Ytkojmnlfpccbiaa
