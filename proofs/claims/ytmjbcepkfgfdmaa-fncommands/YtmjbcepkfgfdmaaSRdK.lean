/- spec.l02Read, walked. -/
import Derived.Test.YtmjbcepkfgfdmaaSRdP
import Derived.Test.YtmjbcepkfgfdmaaCmd
import Derived.Test.YtmjbcepkfgfdmaaRdC
import Derived.Deep.RegionHeld3
import Derived.BigRegion
namespace Go.Proofs.Ytmjbcepkfgfdmaa
open Go.ChangeShapes Go.WideShapes Go.ChangeAt Go.RowKit
set_option linter.unusedVariables false
set_option linter.unusedSimpArgs false

set_option maxRecDepth 100000 in
set_option maxHeartbeats 1000000 in
theorem l02Read_any (a : Option Addr) (cap : Nat) (l : List Int) (w : World) (h : RdV w w.heap.size (.slice a l.length cap) l) (hl : l.length ≤ 65536) :
    Calls Try.prog 41 #[.slice a l.length cap] w fun e w' => e = .returned (.tuple #[cmdVal (cmdP (some l)).1, .bool (doneP (cmdP (some l)).2 && cmdOK (cmdP (some l)).1.1 (cmdP (some l)).1.2.1 (cmdP (some l)).1.2.2.1 (cmdP (some l)).1.2.2.2.1 (cmdP (some l)).1.2.2.2.2)]) ∧ Below w.heap.size w w' := by
  have H := hide h
  clear h
  go_enter Try.func41, Try.ntmps41
  go_wp2_with fail
  have R0 := hide ((Blk.new w #[.int .i64 0, .int .i64 0, .int .i64 0, .string ⟨#[]⟩, .string ⟨#[]⟩] 24 w.heap.size rfl).alloc (.cells #[.slice a l.length cap, .int .i64 0, .bool false] 93))
  have K0 := hide (((Below.refl w.heap.size w).alloc (Nat.le_refl _) (.cells #[.int .i64 0, .int .i64 0, .int .i64 0, .string ⟨#[]⟩, .string ⟨#[]⟩] 24)).alloc (by simp) (.cells #[.slice a l.length cap, .int .i64 0, .bool false] 93))
  have N0 : Hid (((w.alloc (.cells #[.int .i64 0, .int .i64 0, .int .i64 0, .string ⟨#[]⟩, .string ⟨#[]⟩] 24)).alloc (.cells #[.slice a l.length cap, .int .i64 0, .bool false] 93)).heap.size = w.heap.size + 2) := hide (by simp)
  have S0 : Hid (SRd ((w.alloc (.cells #[.int .i64 0, .int .i64 0, .int .i64 0, .string ⟨#[]⟩, .string ⟨#[]⟩] 24)).alloc (.cells #[.slice a l.length cap, .int .i64 0, .bool false] 93)) (w.heap.size + 1) a cap l (some l)) := hide (by
    have hB := Blk.new (w.alloc (.cells #[.int .i64 0, .int .i64 0, .int .i64 0, .string ⟨#[]⟩, .string ⟨#[]⟩] 24)) #[.slice a l.length cap, .int .i64 0, .bool false] 93 (w.heap.size + 1) (by simp)
    refine ⟨0, ⟨hB.cell 0 rfl, hB.cell 1 rfl, hB.cell 2 rfl, hB.fro, hB.1, Nat.zero_le _, ?_, hl⟩, rfl⟩
    have h1 := (unhide H).kept (Nat.le_refl _) (((Touch.refl (fun _ => False) w).alloc (.cells #[.int .i64 0, .int .i64 0, .int .i64 0, .string ⟨#[]⟩, .string ⟨#[]⟩] 24)).alloc (.cells #[.slice a l.length cap, .int .i64 0, .bool false] 93)) (fun _ _ h => h)
    obtain ⟨a', c', hv, q1, q2, hc, hr⟩ := h1
    refine ⟨a', c', hv, q1, q2, ?_, hr⟩
    rcases hc with h0 | ⟨c, off, ha, hlt, hcell⟩
    · exact .inl h0
    · exact .inr ⟨c, off, ha, by omega, hcell⟩)
  clear H
  generalize (w.alloc (.cells #[.int .i64 0, .int .i64 0, .int .i64 0, .string ⟨#[]⟩, .string ⟨#[]⟩] 24)).alloc (.cells #[.slice a l.length cap, .int .i64 0, .bool false] 93) = w0 at *
  refine (specNumberP 1 1 rfl (w.heap.size + 1) a cap l (some l) _ (unhide S0) (by omega) (by omega)).mono ?_
  rintro e w1 ⟨rfl, hS, hT, hz⟩
  obtain ⟨x1, st1, hx1⟩ : ∃ x s, numP 1 (some l) = (x, s) := ⟨_, _, rfl⟩
  rw [hx1] at hS ⊢
  have HX1 := hide hx1
  dsimp only at hS ⊢
  have R1 := hide ((unhide R0).kept hT (by show ¬ w.heap.size = w.heap.size + 1; omega))
  have K1 := hide ((unhide K0).trans (hT.below (B := w.heap.size) (unhide K0).size (fun k hk e => by subst e; omega)))
  have N1 : Hid (w1.heap.size = _) := hide (hz.trans (unhide N0))
  have S1 := hide hS
  clear hx1 hS hT hz R0 K0 N0 S0
  go_wp2_with fail
  refine (specNumberP 2 2 rfl (w.heap.size + 1) a cap l st1 _ (unhide S1) (by omega) (by omega)).mono ?_
  rintro e w2 ⟨rfl, hS, hT, hz⟩
  obtain ⟨x2, st2, hx2⟩ : ∃ x s, numP 2 st1 = (x, s) := ⟨_, _, rfl⟩
  rw [hx2] at hS ⊢
  have HX2 := hide hx2
  dsimp only at hS ⊢
  have R2 := hide ((unhide R1).kept hT (by show ¬ w.heap.size = w.heap.size + 1; omega))
  have K2 := hide ((unhide K1).trans (hT.below (B := w.heap.size) (unhide K1).size (fun k hk e => by subst e; omega)))
  have N2 : Hid (w2.heap.size = _) := hide (hz.trans (unhide N1))
  have S2 := hide hS
  clear hx2 hS hT hz R1 K1 N1 S1
  go_wp2_with fail
  refine (specNumberP 2 2 rfl (w.heap.size + 1) a cap l st2 _ (unhide S2) (by omega) (by omega)).mono ?_
  rintro e w3 ⟨rfl, hS, hT, hz⟩
  obtain ⟨x3, st3, hx3⟩ : ∃ x s, numP 2 st2 = (x, s) := ⟨_, _, rfl⟩
  rw [hx3] at hS ⊢
  have HX3 := hide hx3
  dsimp only at hS ⊢
  have R3 := hide ((unhide R2).kept hT (by show ¬ w.heap.size = w.heap.size + 1; omega))
  have K3 := hide ((unhide K2).trans (hT.below (B := w.heap.size) (unhide K2).size (fun k hk e => by subst e; omega)))
  have N3 : Hid (w3.heap.size = _) := hide (hz.trans (unhide N2))
  have S3 := hide hS
  clear hx3 hS hT hz R2 K2 N2 S2
  go_wp2_with fail
  have hC : w.heap.size + 1 < w3.heap.size := by have := unhide N3; omega
  have C3 := hide (Blk.new w3 #[.int .i64 x1, .int .i64 x2, .int .i64 x3, .string ⟨#[]⟩, .string ⟨#[]⟩] 24 w3.heap.size rfl)
  have R3a := hide ((unhide R3).alloc (.cells #[.int .i64 x1, .int .i64 x2, .int .i64 x3, .string ⟨#[]⟩, .string ⟨#[]⟩] 24))
  have K3a := hide ((unhide K3).alloc (unhide K3).size (.cells #[.int .i64 x1, .int .i64 x2, .int .i64 x3, .string ⟨#[]⟩, .string ⟨#[]⟩] 24))
  have S3a := hide ((unhide S3).alloc (.cells #[.int .i64 x1, .int .i64 x2, .int .i64 x3, .string ⟨#[]⟩, .string ⟨#[]⟩] 24))
  have hr3 := num1_range (unhide S3).range
  clear R3 K3 S3 N3
  generalize w3.alloc (.cells #[.int .i64 x1, .int .i64 x2, .int .i64 x3, .string ⟨#[]⟩, .string ⟨#[]⟩] 24) = w3a at *
  have C3a := C3
  clear C3
  refine (specNumberP 1 1 rfl (w.heap.size + 1) a cap l st3 _ (unhide S3a) (by omega) (by omega)).mono ?_
  rintro e w4 ⟨rfl, hS, hT, hz⟩
  obtain ⟨x4, st4, hx4⟩ : ∃ x s, numP 1 st3 = (x, s) := ⟨_, _, rfl⟩
  rw [hx4] at hS hr3 ⊢
  dsimp only at hS hr3 ⊢
  obtain ⟨n4, rfl⟩ : ∃ n : Nat, x4 = (n : Int) := ⟨x4.toNat, by omega⟩
  have HX4 := hide hx4
  have R4 := hide ((unhide R3a).kept hT (by show ¬ w.heap.size = w.heap.size + 1; omega))
  have C4 := hide ((unhide C3a).kept hT (by show ¬ w3.heap.size = w.heap.size + 1; omega))
  have K4 := hide ((unhide K3a).trans (hT.below (B := w.heap.size) (unhide K3a).size (fun k hk e => by subst e; omega)))
  have S4 := hide hS
  clear hx4 hS hT hz R3a C3a K3a S3a
  go_wp2_with fail
  refine (specTextP n4 (w.heap.size + 1) a cap l st4 _ (unhide S4) (by omega)).mono ?_
  rintro e w5 ⟨rfl, hS, hT, hz⟩
  obtain ⟨y5, st5, hx5⟩ : ∃ x s, takeP n4 st4 = (x, s) := ⟨_, _, rfl⟩
  have hyl : y5.length ≤ n4 := by have := takeP_len n4 st4; rw [hx5] at this; exact this
  have hsz5 := strOfNums_small y5 (by omega)
  rw [hx5] at hS ⊢
  have HX5 := hide hx5
  dsimp only at hS ⊢
  have R5' := hide ((unhide R4).kept hT (by show ¬ w.heap.size = w.heap.size + 1; omega))
  have C5' := hide ((unhide C4).kept hT (by show ¬ w3.heap.size = w.heap.size + 1; omega))
  have K5' := hide ((unhide K4).trans (hT.below (B := w.heap.size) (unhide K4).size (fun k hk e => by subst e; omega)))
  have S5' := hide hS
  clear hx5 hS hT hz R4 C4 K4 S4 hyl
  generalize hs5 : strOfNums y5 = s5 at *
  have HS5 := hide hs5
  clear hs5
  have c5 := (unhide C5').cell 3 rfl
  have f5 := (unhide C5').fro 3
  have C5 := hide ((unhide C5').set 3 (.string s5) (by simp))
  have R5 := hide ((unhide R5').other (C := w3.heap.size) 3 (.string s5) (by omega))
  have K5 := hide ((unhide K5').setCell (p := ⟨w3.heap.size, 3, none⟩) (by show w.heap.size ≤ w3.heap.size; omega) (.string s5))
  have S5 := hide ((unhide S5').other (C := w3.heap.size) 3 (.string s5) (by omega))
  simp only [List.set_cons_zero, List.set_cons_succ] at C5
  clear C5' R5' K5' S5'
  go_wp2_with fail
  clear c5 f5
  generalize w5.setCell ⟨w3.heap.size, 3, none⟩ (.string s5) = w5s at *
  have hr5 := num1_range (unhide S5).range
  refine (specNumberP 1 1 rfl (w.heap.size + 1) a cap l st5 _ (unhide S5) (by omega) (by omega)).mono ?_
  rintro e w6 ⟨rfl, hS, hT, hz⟩
  obtain ⟨x6, st6, hx6⟩ : ∃ x s, numP 1 st5 = (x, s) := ⟨_, _, rfl⟩
  rw [hx6] at hS hr5 ⊢
  dsimp only at hS hr5 ⊢
  obtain ⟨n6, rfl⟩ : ∃ n : Nat, x6 = (n : Int) := ⟨x6.toNat, by omega⟩
  have HX6 := hide hx6
  have R6 := hide ((unhide R5).kept hT (by show ¬ w.heap.size = w.heap.size + 1; omega))
  have C6 := hide ((unhide C5).kept hT (by show ¬ w3.heap.size = w.heap.size + 1; omega))
  have K6 := hide ((unhide K5).trans (hT.below (B := w.heap.size) (unhide K5).size (fun k hk e => by subst e; omega)))
  have S6 := hide hS
  clear hx6 hS hT hz R5 C5 K5 S5
  go_wp2_with fail
  refine (specTextP n6 (w.heap.size + 1) a cap l st6 _ (unhide S6) (by omega)).mono ?_
  rintro e w7 ⟨rfl, hS, hT, hz⟩
  obtain ⟨y7, st7, hx7⟩ : ∃ x s, takeP n6 st6 = (x, s) := ⟨_, _, rfl⟩
  have hyl : y7.length ≤ n6 := by have := takeP_len n6 st6; rw [hx7] at this; exact this
  have hsz7 := strOfNums_small y7 (by omega)
  rw [hx7] at hS ⊢
  have HX7 := hide hx7
  dsimp only at hS ⊢
  have R7' := hide ((unhide R6).kept hT (by show ¬ w.heap.size = w.heap.size + 1; omega))
  have C7' := hide ((unhide C6).kept hT (by show ¬ w3.heap.size = w.heap.size + 1; omega))
  have K7' := hide ((unhide K6).trans (hT.below (B := w.heap.size) (unhide K6).size (fun k hk e => by subst e; omega)))
  have S7' := hide hS
  clear hx7 hS hT hz R6 C6 K6 S6 hyl
  generalize hs7 : strOfNums y7 = s7 at *
  have HS7 := hide hs7
  clear hs7
  have c7 := (unhide C7').cell 4 rfl
  have f7 := (unhide C7').fro 4
  have C7 := hide ((unhide C7').set 4 (.string s7) (by simp))
  have R7 := hide ((unhide R7').other (C := w3.heap.size) 4 (.string s7) (by omega))
  have K7 := hide ((unhide K7').setCell (p := ⟨w3.heap.size, 4, none⟩) (by show w.heap.size ≤ w3.heap.size; omega) (.string s7))
  have S7 := hide ((unhide S7').other (C := w3.heap.size) 4 (.string s7) (by omega))
  simp only [List.set_cons_zero, List.set_cons_succ] at C7
  clear C7' R7' K7' S7'
  go_wp2_with fail
  clear c7 f7
  generalize w7.setCell ⟨w3.heap.size, 4, none⟩ (.string s7) = w7s at *
  have E : Hid (cmdP (some l) = ((x1, x2, x3, s5, s7), st7)) := hide (by
    have e5 : textP st3 = (y5, st5) := by unfold textP; rw [unhide HX4]; dsimp only; rw [Int.toNat_natCast, unhide HX5]
    have e7 : textP st5 = (y7, st7) := by unfold textP; rw [unhide HX6]; dsimp only; rw [Int.toNat_natCast, unhide HX7]
    simp only [cmdP, unhide HX1, unhide HX2, unhide HX3, e5, e7, unhide HS5, unhide HS7])
  clear HX1 HX2 HX3 HX4 HX5 HX6 HX7 HS5 HS7 hr3 hr5
  have c0 := (unhide C7).cell 0 rfl
  have c1 := (unhide C7).cell 1 rfl
  have c2 := (unhide C7).cell 2 rfl
  have c3 := (unhide C7).cell 3 rfl
  have c4 := (unhide C7).cell 4 rfl
  have r0 := (unhide R7).cell 0 rfl
  have r1 := (unhide R7).cell 1 rfl
  have r2 := (unhide R7).cell 2 rfl
  have r3 := (unhide R7).cell 3 rfl
  have r4 := (unhide R7).cell 4 rfl
  have q0 := (unhide R7).fro 0
  have q1 := (unhide R7).fro 1
  have q2 := (unhide R7).fro 2
  have q3 := (unhide R7).fro 3
  have q4 := (unhide R7).fro 4
  have hne1 : w.heap.size ≠ w3.heap.size := by omega
  have hne2 : w3.heap.size ≠ w.heap.size := by omega
  have hsz5' := hsz5
  have hsz7' := hsz7
  clear hsz5 hsz7
  cases st7 with
  | none =>
    have HV := hide (show Value.tuple #[cmdVal (cmdP (some l)).1, .bool (doneP (cmdP (some l)).2 && cmdOK (cmdP (some l)).1.1 (cmdP (some l)).1.2.1 (cmdP (some l)).1.2.2.1 (cmdP (some l)).1.2.2.2.1 (cmdP (some l)).1.2.2.2.2)] = .tuple #[.agg #[.int .i64 x1, .int .i64 x2, .int .i64 x3, .string s5, .string s7], .bool false] by rw [unhide E]; rfl)
    obtain ⟨p, h0, h1, h2, _, hlt, hp, _, _⟩ := unhide S7
    go_big_region
    go_wp2_with fail
    refine bodyPost_ret (v := .tuple #[.agg #[.int .i64 x1, .int .i64 x2, .int .i64 x3, .string s5, .string s7], .bool false]) (by simp [results, Try.results41, go_sem, r0, r1, r2, r3, r4]) rfl ⟨?_, ?_⟩
    · rw [unhide HV]
    · exact ((((((unhide K7).setCell (p := ⟨w.heap.size, 0, none⟩) (Nat.le_refl _) _).setCell (p := ⟨w.heap.size, 1, none⟩) (Nat.le_refl _) _).setCell (p := ⟨w.heap.size, 2, none⟩) (Nat.le_refl _) _).setCell (p := ⟨w.heap.size, 3, none⟩) (Nat.le_refl _) _).setCell (p := ⟨w.heap.size, 4, none⟩) (Nat.le_refl _) _).drew
  | some rs =>
    obtain ⟨p, ⟨h0, h1, h2, _, hlt, hp, _, _⟩, hrs⟩ := unhide S7
    by_cases hpl : p = l.length
    · have HV := hide (show Value.tuple #[cmdVal (cmdP (some l)).1, .bool (doneP (cmdP (some l)).2 && cmdOK (cmdP (some l)).1.1 (cmdP (some l)).1.2.1 (cmdP (some l)).1.2.2.1 (cmdP (some l)).1.2.2.2.1 (cmdP (some l)).1.2.2.2.2)] = .tuple #[.agg #[.int .i64 x1, .int .i64 x2, .int .i64 x3, .string s5, .string s7], .bool (cmdOK x1 x2 x3 s5 s7)] by rw [unhide E, hrs]; dsimp only; rw [doneP_some]; simp [hpl, cmdVal])
      have hb0 : ((p : Int) == (l.length : Int)) = true := by rw [hpl]; simp
      have HH := hide hsz5'
      have HH7 := hide hsz7'
      clear hrs hpl hsz5' hsz7'
      go_region_held3 (fun wx => wx.cell? ⟨w3.heap.size, 0, none⟩ = some (.int .i64 x1) ∧ wx.cell? ⟨w3.heap.size, 1, none⟩ = some (.int .i64 x2) ∧ wx.cell? ⟨w3.heap.size, 2, none⟩ = some (.int .i64 x3) ∧ wx.cell? ⟨w3.heap.size, 3, none⟩ = some (.string s5) ∧ wx.cell? ⟨w3.heap.size, 4, none⟩ = some (.string s7) ∧ wx.cell? ⟨w.heap.size + 1, 1, none⟩ = some (.int .i64 p) ∧ wx.cell? ⟨w.heap.size + 1, 2, none⟩ = some (.bool false)) (go_keep)
        ((go_at_call 30; refine (specCommandOK_any x1 x2 x3 s5 s7 _ (unhide HH) (unhide HH7)).mono ?_; rintro e w9 ⟨rfl, hb9⟩; have T9 := hide hb9; have g0 := ((unhide C7).kept (T := fun _ => False) (Touch.ofBelow (w := w7s) ⟨hb9.os, hb9.tape, hb9.output, hb9.size, hb9.block⟩) (fun h => h)); have R9 := ((unhide R7).kept (T := fun _ => False) (Touch.ofBelow (w := w7s) ⟨hb9.os, hb9.tape, hb9.output, hb9.size, hb9.block⟩) (fun h => h)); have k0 := g0.cell 0 rfl; have k1 := g0.cell 1 rfl; have k2 := g0.cell 2 rfl; have k3 := g0.cell 3 rfl; have k4 := g0.cell 4 rfl; have k5 := (hb9.cell (p := ⟨w.heap.size + 1, 1, none⟩) hlt).trans h1; have k6 := (hb9.cell (p := ⟨w.heap.size + 1, 2, none⟩) hlt).trans h2; have R9' := hide R9; have u0 := R9.cell 0 rfl; have u1 := R9.cell 1 rfl; have u2 := R9.cell 2 rfl; have u3 := R9.cell 3 rfl; have u4 := R9.cell 4 rfl; have z0 := R9.fro 0; have z1 := R9.fro 1; have z2 := R9.fro 2; have z3 := R9.fro 3; have z4 := R9.fro 4; clear hb9 g0 R9))
      go_wp2_with fail
      refine bodyPost_ret (v := .tuple #[.agg #[.int .i64 x1, .int .i64 x2, .int .i64 x3, .string s5, .string s7], .bool (cmdOK x1 x2 x3 s5 s7)]) (by simp [results, Try.results41, go_sem, u0, u1, u2, u3, u4]) rfl ⟨?_, ?_⟩
      · rw [unhide HV]
      · have K9 : Below w.heap.size w w9 := (unhide K7).trans (Below.mono ⟨(unhide T9).os, (unhide T9).tape, (unhide T9).output, (unhide T9).size, (unhide T9).block⟩ (unhide K7).size)
        exact ((((K9.setCell (p := ⟨w.heap.size, 0, none⟩) (Nat.le_refl _) _).setCell (p := ⟨w.heap.size, 1, none⟩) (Nat.le_refl _) _).setCell (p := ⟨w.heap.size, 2, none⟩) (Nat.le_refl _) _).setCell (p := ⟨w.heap.size, 3, none⟩) (Nat.le_refl _) _).setCell (p := ⟨w.heap.size, 4, none⟩) (Nat.le_refl _) _
    · have HV := hide (show Value.tuple #[cmdVal (cmdP (some l)).1, .bool (doneP (cmdP (some l)).2 && cmdOK (cmdP (some l)).1.1 (cmdP (some l)).1.2.1 (cmdP (some l)).1.2.2.1 (cmdP (some l)).1.2.2.2.1 (cmdP (some l)).1.2.2.2.2)] = .tuple #[.agg #[.int .i64 x1, .int .i64 x2, .int .i64 x3, .string s5, .string s7], .bool false] by rw [unhide E, hrs]; dsimp only; rw [doneP_some]; simp [cmdVal]; omega)
      have hb0 : ((p : Int) == (l.length : Int)) = false := by simp; omega
      clear hrs hpl
      go_big_region
      go_wp2_with fail
      refine bodyPost_ret (v := .tuple #[.agg #[.int .i64 x1, .int .i64 x2, .int .i64 x3, .string s5, .string s7], .bool false]) (by simp [results, Try.results41, go_sem, r0, r1, r2, r3, r4]) rfl ⟨?_, ?_⟩
      · rw [unhide HV]
      · exact ((((((unhide K7).setCell (p := ⟨w.heap.size, 0, none⟩) (Nat.le_refl _) _).setCell (p := ⟨w.heap.size, 1, none⟩) (Nat.le_refl _) _).setCell (p := ⟨w.heap.size, 2, none⟩) (Nat.le_refl _) _).setCell (p := ⟨w.heap.size, 3, none⟩) (Nat.le_refl _) _).setCell (p := ⟨w.heap.size, 4, none⟩) (Nat.le_refl _) _).drew
end Go.Proofs.Ytmjbcepkfgfdmaa
