/- spec.l02ReadEntry, walked. -/
import Derived.Test.YtpdjfjapdmopoaaSRdP
import Derived.Test.YtpdjfjapdmopoaaRdE
import Derived.Test.YtpdjfjapdmopoaaEnt
import Derived.Deep.RegionHeld3
import Derived.BigRegion
namespace Go.Proofs.Ytpdjfjapdmopoaa
open Go.ChangeShapes Go.WideShapes Go.ChangeAt Go.RowKit
set_option linter.unusedVariables false
set_option linter.unusedSimpArgs false

set_option maxRecDepth 100000 in
set_option maxHeartbeats 1000000 in
theorem l02ReadEntry_any (a : Option Addr) (cap : Nat) (l : List Int) (w : World) (h : RdV w w.heap.size (.slice a l.length cap) l) (hl : l.length ≤ 65536) :
    Calls Try.prog 50 #[.slice a l.length cap] w fun e w' => e = .returned (Value.tuple #[entVal (entP (some l)).1, .bool (doneP (entP (some l)).2 && entOK (entP (some l)).1.1 (entP (some l)).1.2.1 (entP (some l)).1.2.2)]) ∧ Below w.heap.size w w' := by
  have H := hide h
  clear h
  go_enter Try.func50, Try.ntmps50
  go_wp2_with fail
  have R0 := hide ((Blk.new w #[.int .i64 0, .int .i64 0, .string ⟨#[]⟩] 78 w.heap.size rfl).alloc (.cells #[.slice a l.length cap, .int .i64 0, .bool false] 101))
  have K0 := hide (((Below.refl w.heap.size w).alloc (Nat.le_refl _) (.cells #[.int .i64 0, .int .i64 0, .string ⟨#[]⟩] 78)).alloc (by simp) (.cells #[.slice a l.length cap, .int .i64 0, .bool false] 101))
  have N0 : Hid (((w.alloc (.cells #[.int .i64 0, .int .i64 0, .string ⟨#[]⟩] 78)).alloc (.cells #[.slice a l.length cap, .int .i64 0, .bool false] 101)).heap.size = w.heap.size + 2) := hide (by simp)
  have S0 : Hid (SRd ((w.alloc (.cells #[.int .i64 0, .int .i64 0, .string ⟨#[]⟩] 78)).alloc (.cells #[.slice a l.length cap, .int .i64 0, .bool false] 101)) (w.heap.size + 1) a cap l (some l)) := hide (by
    have hB := Blk.new (w.alloc (.cells #[.int .i64 0, .int .i64 0, .string ⟨#[]⟩] 78)) #[.slice a l.length cap, .int .i64 0, .bool false] 101 (w.heap.size + 1) (by simp)
    refine ⟨0, ⟨hB.cell 0 rfl, hB.cell 1 rfl, hB.cell 2 rfl, hB.fro, hB.1, Nat.zero_le _, ?_, hl⟩, rfl⟩
    have h1 := (unhide H).kept (Nat.le_refl _) (((Touch.refl (fun _ => False) w).alloc (.cells #[.int .i64 0, .int .i64 0, .string ⟨#[]⟩] 78)).alloc (.cells #[.slice a l.length cap, .int .i64 0, .bool false] 101)) (fun _ _ h => h)
    obtain ⟨a', c', hv, q1, q2, hc, hr⟩ := h1
    refine ⟨a', c', hv, q1, q2, ?_, hr⟩
    rcases hc with h0 | ⟨c, off, ha, hlt, hcell⟩
    · exact .inl h0
    · exact .inr ⟨c, off, ha, by omega, hcell⟩)
  clear H
  generalize (w.alloc (.cells #[.int .i64 0, .int .i64 0, .string ⟨#[]⟩] 78)).alloc (.cells #[.slice a l.length cap, .int .i64 0, .bool false] 101) = w0 at *
  refine (specNumberP 4 4 rfl (w.heap.size + 1) a cap l (some l) _ (unhide S0) (by omega) (by omega)).mono ?_
  rintro e w1 ⟨rfl, hS, hT, hz⟩
  obtain ⟨x1, st1, hx1⟩ : ∃ x s, numP 4 (some l) = (x, s) := ⟨_, _, rfl⟩
  rw [hx1] at hS ⊢
  have HX1 := hide hx1
  dsimp only at hS ⊢
  have R1 := hide ((unhide R0).kept hT (by show ¬ w.heap.size = w.heap.size + 1; omega))
  have K1 := hide ((unhide K0).trans (hT.below (B := w.heap.size) (unhide K0).size (fun k hk e => by subst e; omega)))
  have N1 : Hid (w1.heap.size = _) := hide (hz.trans (unhide N0))
  have S1 := hide hS
  clear hx1 hS hT hz R0 K0 N0 S0
  go_wp2_with fail
  refine (specNumberP 1 1 rfl (w.heap.size + 1) a cap l st1 _ (unhide S1) (by omega) (by omega)).mono ?_
  rintro e w2 ⟨rfl, hS, hT, hz⟩
  obtain ⟨x2, st2, hx2⟩ : ∃ x s, numP 1 st1 = (x, s) := ⟨_, _, rfl⟩
  rw [hx2] at hS ⊢
  have HX2 := hide hx2
  dsimp only at hS ⊢
  have R2 := hide ((unhide R1).kept hT (by show ¬ w.heap.size = w.heap.size + 1; omega))
  have K2 := hide ((unhide K1).trans (hT.below (B := w.heap.size) (unhide K1).size (fun k hk e => by subst e; omega)))
  have N2 : Hid (w2.heap.size = _) := hide (hz.trans (unhide N1))
  have S2 := hide hS
  clear hx2 hS hT hz R1 K1 N1 S1
  go_wp2_with fail
  have hC : w.heap.size + 1 < w2.heap.size := by have := unhide N2; omega
  have C2a := hide (Blk.new w2 #[.int .i64 x1, .int .i64 x2, .string ⟨#[]⟩] 78 w2.heap.size rfl)
  have R2a := hide ((unhide R2).alloc (.cells #[.int .i64 x1, .int .i64 x2, .string ⟨#[]⟩] 78))
  have K2a := hide ((unhide K2).alloc (unhide K2).size (.cells #[.int .i64 x1, .int .i64 x2, .string ⟨#[]⟩] 78))
  have S2a := hide ((unhide S2).alloc (.cells #[.int .i64 x1, .int .i64 x2, .string ⟨#[]⟩] 78))
  have hr3 := num1_range (unhide S2).range
  clear R2 K2 S2 N2
  generalize w2.alloc (.cells #[.int .i64 x1, .int .i64 x2, .string ⟨#[]⟩] 78) = w2a at *
  refine (specNumberP 1 1 rfl (w.heap.size + 1) a cap l st2 _ (unhide S2a) (by omega) (by omega)).mono ?_
  rintro e w4 ⟨rfl, hS, hT, hz⟩
  obtain ⟨x4, st4, hx4⟩ : ∃ x s, numP 1 st2 = (x, s) := ⟨_, _, rfl⟩
  rw [hx4] at hS hr3 ⊢
  dsimp only at hS hr3 ⊢
  obtain ⟨n4, rfl⟩ : ∃ n : Nat, x4 = (n : Int) := ⟨x4.toNat, by omega⟩
  have HX4 := hide hx4
  have R4 := hide ((unhide R2a).kept hT (by show ¬ w.heap.size = w.heap.size + 1; omega))
  have C4 := hide ((unhide C2a).kept hT (by show ¬ w2.heap.size = w.heap.size + 1; omega))
  have K4 := hide ((unhide K2a).trans (hT.below (B := w.heap.size) (unhide K2a).size (fun k hk e => by subst e; omega)))
  have S4 := hide hS
  clear hx4 hS hT hz R2a C2a K2a S2a
  go_wp2_with fail
  refine (specTextP n4 (w.heap.size + 1) a cap l st4 _ (unhide S4) (by omega)).mono ?_
  rintro e w5 ⟨rfl, hS, hT, hz⟩
  obtain ⟨y5, st5, hx5⟩ : ∃ x s, takeP n4 st4 = (x, s) := ⟨_, _, rfl⟩
  have hyl : y5.length ≤ n4 := by have := takeP_len n4 st4; rw [hx5] at this; exact this
  have hsz5 := strOfNums_small y5 (by omega)
  have hsz5b : (strOfNums y5).size ≤ 1048576 := by rw [strOfNums_size]; omega
  rw [hx5] at hS ⊢
  have HX5 := hide hx5
  dsimp only at hS ⊢
  have R5' := hide ((unhide R4).kept hT (by show ¬ w.heap.size = w.heap.size + 1; omega))
  have C5' := hide ((unhide C4).kept hT (by show ¬ w2.heap.size = w.heap.size + 1; omega))
  have K5' := hide ((unhide K4).trans (hT.below (B := w.heap.size) (unhide K4).size (fun k hk e => by subst e; omega)))
  have S5' := hide hS
  clear hx5 hS hT hz R4 C4 K4 S4 hyl
  generalize hs5 : strOfNums y5 = s5 at *
  have HS5 := hide hs5
  clear hs5
  have c5 := (unhide C5').cell 2 rfl
  have f5 := (unhide C5').fro 2
  have C7 := hide ((unhide C5').set 2 (.string s5) (by simp))
  have R7 := hide ((unhide R5').other (C := w2.heap.size) 2 (.string s5) (by omega))
  have K7 := hide ((unhide K5').setCell (p := ⟨w2.heap.size, 2, none⟩) (by show w.heap.size ≤ w2.heap.size; omega) (.string s5))
  have S7 := hide ((unhide S5').other (C := w2.heap.size) 2 (.string s5) (by omega))
  simp only [List.set_cons_zero, List.set_cons_succ] at C7
  clear C5' R5' K5' S5'
  go_wp2_with fail
  clear c5 f5
  generalize w5.setCell ⟨w2.heap.size, 2, none⟩ (.string s5) = w7s at *
  have E : Hid (entP (some l) = ((x1, x2, s5), st5)) := hide (by
    have e5 : textP st2 = (y5, st5) := by unfold textP; rw [unhide HX4]; dsimp only; rw [Int.toNat_natCast, unhide HX5]
    simp only [entP, unhide HX1, unhide HX2, e5, unhide HS5])
  clear HX1 HX2 HX4 HX5 HS5 hr3
  have c0 := (unhide C7).cell 0 rfl
  have c1 := (unhide C7).cell 1 rfl
  have c2 := (unhide C7).cell 2 rfl
  have r0 := (unhide R7).cell 0 rfl
  have r1 := (unhide R7).cell 1 rfl
  have r2 := (unhide R7).cell 2 rfl
  have q0 := (unhide R7).fro 0
  have q1 := (unhide R7).fro 1
  have q2 := (unhide R7).fro 2
  have hne1 : w.heap.size ≠ w2.heap.size := by omega
  have hne2 : w2.heap.size ≠ w.heap.size := by omega
  have HH := hide hsz5
  have HH2 := hide hsz5b
  clear hsz5 hsz5b
  cases st5 with
  | none =>
    have HV := hide (show Value.tuple #[entVal (entP (some l)).1, .bool (doneP (entP (some l)).2 && entOK (entP (some l)).1.1 (entP (some l)).1.2.1 (entP (some l)).1.2.2)] = .tuple #[.agg #[.int .i64 x1, .int .i64 x2, .string s5], .bool false] by rw [unhide E]; rfl)
    obtain ⟨p, h0, h1, h2, _, hlt, hp, _, _⟩ := unhide S7
    go_big_region
    go_wp2_with fail
    refine bodyPost_ret (v := .tuple #[.agg #[.int .i64 x1, .int .i64 x2, .string s5], .bool false]) (by simp [results, Try.results50, go_sem, r0, r1, r2]) rfl ⟨?_, ?_⟩
    · rw [unhide HV]
    · exact ((((unhide K7).setCell (p := ⟨w.heap.size, 0, none⟩) (Nat.le_refl _) _).setCell (p := ⟨w.heap.size, 1, none⟩) (Nat.le_refl _) _).setCell (p := ⟨w.heap.size, 2, none⟩) (Nat.le_refl _) _).drew
  | some rs =>
    obtain ⟨p, ⟨h0, h1, h2, _, hlt, hp, _, _⟩, hrs⟩ := unhide S7
    by_cases hpl : p = l.length
    · have HV := hide (show Value.tuple #[entVal (entP (some l)).1, .bool (doneP (entP (some l)).2 && entOK (entP (some l)).1.1 (entP (some l)).1.2.1 (entP (some l)).1.2.2)] = .tuple #[.agg #[.int .i64 x1, .int .i64 x2, .string s5], .bool (entOK x1 x2 s5)] by rw [unhide E, hrs]; dsimp only; rw [doneP_some]; simp [hpl, entVal])
      have hb0 : ((p : Int) == (l.length : Int)) = true := by rw [hpl]; simp
      clear hrs hpl
      go_region_held3 (fun wx => wx.cell? ⟨w2.heap.size, 0, none⟩ = some (.int .i64 x1) ∧ wx.cell? ⟨w2.heap.size, 1, none⟩ = some (.int .i64 x2) ∧ wx.cell? ⟨w2.heap.size, 2, none⟩ = some (.string s5) ∧ wx.cell? ⟨w.heap.size + 1, 1, none⟩ = some (.int .i64 p) ∧ wx.cell? ⟨w.heap.size + 1, 2, none⟩ = some (.bool false)) (go_keep)
        ((go_at_call 52; refine (specEntry_any x1 x2 s5 _ (unhide HH) (unhide HH2)).mono ?_; rintro e w9 ⟨rfl, hb9⟩; have T9 := hide hb9; have g0 := ((unhide C7).kept (T := fun _ => False) (Touch.ofBelow (w := w7s) ⟨hb9.os, hb9.tape, hb9.output, hb9.size, hb9.block⟩) (fun h => h)); have R9 := ((unhide R7).kept (T := fun _ => False) (Touch.ofBelow (w := w7s) ⟨hb9.os, hb9.tape, hb9.output, hb9.size, hb9.block⟩) (fun h => h)); have k0 := g0.cell 0 rfl; have k1 := g0.cell 1 rfl; have k2 := g0.cell 2 rfl; have k5 := (hb9.cell (p := ⟨w.heap.size + 1, 1, none⟩) hlt).trans h1; have k6 := (hb9.cell (p := ⟨w.heap.size + 1, 2, none⟩) hlt).trans h2; have R9' := hide R9; have u0 := R9.cell 0 rfl; have u1 := R9.cell 1 rfl; have u2 := R9.cell 2 rfl; have z0 := R9.fro 0; have z1 := R9.fro 1; have z2 := R9.fro 2; clear hb9 g0 R9))
      go_wp2_with fail
      refine bodyPost_ret (v := .tuple #[.agg #[.int .i64 x1, .int .i64 x2, .string s5], .bool (entOK x1 x2 s5)]) (by simp [results, Try.results50, go_sem, u0, u1, u2]) rfl ⟨?_, ?_⟩
      · rw [unhide HV]
      · have K9 : Below w.heap.size w w9 := (unhide K7).trans (Below.mono ⟨(unhide T9).os, (unhide T9).tape, (unhide T9).output, (unhide T9).size, (unhide T9).block⟩ (unhide K7).size)
        exact (((K9).setCell (p := ⟨w.heap.size, 0, none⟩) (Nat.le_refl _) _).setCell (p := ⟨w.heap.size, 1, none⟩) (Nat.le_refl _) _).setCell (p := ⟨w.heap.size, 2, none⟩) (Nat.le_refl _) _
    · have HV := hide (show Value.tuple #[entVal (entP (some l)).1, .bool (doneP (entP (some l)).2 && entOK (entP (some l)).1.1 (entP (some l)).1.2.1 (entP (some l)).1.2.2)] = .tuple #[.agg #[.int .i64 x1, .int .i64 x2, .string s5], .bool false] by rw [unhide E, hrs]; dsimp only; rw [doneP_some]; simp [entVal]; omega)
      have hb0 : ((p : Int) == (l.length : Int)) = false := by simp; omega
      clear hrs hpl
      go_big_region
      go_wp2_with fail
      refine bodyPost_ret (v := .tuple #[.agg #[.int .i64 x1, .int .i64 x2, .string s5], .bool false]) (by simp [results, Try.results50, go_sem, r0, r1, r2]) rfl ⟨?_, ?_⟩
      · rw [unhide HV]
      · exact ((((unhide K7).setCell (p := ⟨w.heap.size, 0, none⟩) (Nat.le_refl _) _).setCell (p := ⟨w.heap.size, 1, none⟩) (Nat.le_refl _) _).setCell (p := ⟨w.heap.size, 2, none⟩) (Nat.le_refl _) _).drew
end Go.Proofs.Ytpdjfjapdmopoaa
