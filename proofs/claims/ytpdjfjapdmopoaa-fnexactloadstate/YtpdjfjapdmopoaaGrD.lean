/- spec.l02ReadEntry, walked. spec.l05Fold, walked. spec.StateOK, walked. spec.l05FoldAll, walked. spec.FoldRecords, walked. -/
import Derived.Test.YtpdjfjapdmopoaaSRdP
import Derived.Test.YtpdjfjapdmopoaaRdE
import Derived.Test.YtpdjfjapdmopoaaEnt
import Derived.Deep.RegionHeld3
import Derived.BigRegion
import Derived.Test.YtpdjfjapdmopoaaGrC
import Derived.Test.YtpdjfjapdmopoaaAppR
import Derived.Deep.DeepCutAuto
import Derived.Test.YtpdjfjapdmopoaaStO
import Derived.Test.YtpdjfjapdmopoaaQb
namespace Go.Proofs.Ytpdjfjapdmopoaa
open Go.ChangeShapes Go.WideShapes Go.ChangeAt Go.RowKit
set_option linter.unusedVariables false
set_option linter.unusedSimpArgs false

set_option maxRecDepth 100000 in
set_option maxHeartbeats 1000000 in
theorem l02ReadEntry_any (a : Option Addr) (cap : Nat) (l : List Int) (w : World) (h : RdV w w.heap.size (.slice a l.length cap) l) (hl : l.length ≤ 65536) :
    Calls Try.prog 50 #[.slice a l.length cap] w fun e w' => e = .returned (Value.tuple #[entVal (entP (some l)).1, .bool (doneP (entP (some l)).2 && entOK (entP (some l)).1.1 (entP (some l)).1.2.1 (entP (some l)).1.2.2)]) ∧ Below w.heap.size w w' := by
  have H := hide h
  clear h
  go_enter Try.func50, Try.ntmps50
  go_wp2_with fail
  have R0 := hide ((Blk.new w #[.int .i64 0, .int .i64 0, .string ⟨#[]⟩] 78 w.heap.size rfl).alloc (.cells #[.slice a l.length cap, .int .i64 0, .bool false] 101))
  have K0 := hide (((Below.refl w.heap.size w).alloc (Nat.le_refl _) (.cells #[.int .i64 0, .int .i64 0, .string ⟨#[]⟩] 78)).alloc (by simp) (.cells #[.slice a l.length cap, .int .i64 0, .bool false] 101))
  have N0 : Hid (((w.alloc (.cells #[.int .i64 0, .int .i64 0, .string ⟨#[]⟩] 78)).alloc (.cells #[.slice a l.length cap, .int .i64 0, .bool false] 101)).heap.size = w.heap.size + 2) := hide (by simp)
  have S0 : Hid (SRd ((w.alloc (.cells #[.int .i64 0, .int .i64 0, .string ⟨#[]⟩] 78)).alloc (.cells #[.slice a l.length cap, .int .i64 0, .bool false] 101)) (w.heap.size + 1) a cap l (some l)) := hide (by
    have hB := Blk.new (w.alloc (.cells #[.int .i64 0, .int .i64 0, .string ⟨#[]⟩] 78)) #[.slice a l.length cap, .int .i64 0, .bool false] 101 (w.heap.size + 1) (by simp)
    refine ⟨0, ⟨hB.cell 0 rfl, hB.cell 1 rfl, hB.cell 2 rfl, hB.fro, hB.1, Nat.zero_le _, ?_, hl⟩, rfl⟩
    have h1 := (unhide H).kept (Nat.le_refl _) (((Touch.refl (fun _ => False) w).alloc (.cells #[.int .i64 0, .int .i64 0, .string ⟨#[]⟩] 78)).alloc (.cells #[.slice a l.length cap, .int .i64 0, .bool false] 101)) (fun _ _ h => h)
    obtain ⟨a', c', hv, q1, q2, hc, hr⟩ := h1
    refine ⟨a', c', hv, q1, q2, ?_, hr⟩
    rcases hc with h0 | ⟨c, off, ha, hlt, hcell⟩
    · exact .inl h0
    · exact .inr ⟨c, off, ha, by omega, hcell⟩)
  clear H
  generalize (w.alloc (.cells #[.int .i64 0, .int .i64 0, .string ⟨#[]⟩] 78)).alloc (.cells #[.slice a l.length cap, .int .i64 0, .bool false] 101) = w0 at *
  refine (specNumberP 4 4 rfl (w.heap.size + 1) a cap l (some l) _ (unhide S0) (by omega) (by omega)).mono ?_
  rintro e w1 ⟨rfl, hS, hT, hz⟩
  obtain ⟨x1, st1, hx1⟩ : ∃ x s, numP 4 (some l) = (x, s) := ⟨_, _, rfl⟩
  rw [hx1] at hS ⊢
  have HX1 := hide hx1
  dsimp only at hS ⊢
  have R1 := hide ((unhide R0).kept hT (by show ¬ w.heap.size = w.heap.size + 1; omega))
  have K1 := hide ((unhide K0).trans (hT.below (B := w.heap.size) (unhide K0).size (fun k hk e => by subst e; omega)))
  have N1 : Hid (w1.heap.size = _) := hide (hz.trans (unhide N0))
  have S1 := hide hS
  clear hx1 hS hT hz R0 K0 N0 S0
  go_wp2_with fail
  refine (specNumberP 1 1 rfl (w.heap.size + 1) a cap l st1 _ (unhide S1) (by omega) (by omega)).mono ?_
  rintro e w2 ⟨rfl, hS, hT, hz⟩
  obtain ⟨x2, st2, hx2⟩ : ∃ x s, numP 1 st1 = (x, s) := ⟨_, _, rfl⟩
  rw [hx2] at hS ⊢
  have HX2 := hide hx2
  dsimp only at hS ⊢
  have R2 := hide ((unhide R1).kept hT (by show ¬ w.heap.size = w.heap.size + 1; omega))
  have K2 := hide ((unhide K1).trans (hT.below (B := w.heap.size) (unhide K1).size (fun k hk e => by subst e; omega)))
  have N2 : Hid (w2.heap.size = _) := hide (hz.trans (unhide N1))
  have S2 := hide hS
  clear hx2 hS hT hz R1 K1 N1 S1
  go_wp2_with fail
  have hC : w.heap.size + 1 < w2.heap.size := by have := unhide N2; omega
  have C2a := hide (Blk.new w2 #[.int .i64 x1, .int .i64 x2, .string ⟨#[]⟩] 78 w2.heap.size rfl)
  have R2a := hide ((unhide R2).alloc (.cells #[.int .i64 x1, .int .i64 x2, .string ⟨#[]⟩] 78))
  have K2a := hide ((unhide K2).alloc (unhide K2).size (.cells #[.int .i64 x1, .int .i64 x2, .string ⟨#[]⟩] 78))
  have S2a := hide ((unhide S2).alloc (.cells #[.int .i64 x1, .int .i64 x2, .string ⟨#[]⟩] 78))
  have hr3 := num1_range (unhide S2).range
  clear R2 K2 S2 N2
  generalize w2.alloc (.cells #[.int .i64 x1, .int .i64 x2, .string ⟨#[]⟩] 78) = w2a at *
  refine (specNumberP 1 1 rfl (w.heap.size + 1) a cap l st2 _ (unhide S2a) (by omega) (by omega)).mono ?_
  rintro e w4 ⟨rfl, hS, hT, hz⟩
  obtain ⟨x4, st4, hx4⟩ : ∃ x s, numP 1 st2 = (x, s) := ⟨_, _, rfl⟩
  rw [hx4] at hS hr3 ⊢
  dsimp only at hS hr3 ⊢
  obtain ⟨n4, rfl⟩ : ∃ n : Nat, x4 = (n : Int) := ⟨x4.toNat, by omega⟩
  have HX4 := hide hx4
  have R4 := hide ((unhide R2a).kept hT (by show ¬ w.heap.size = w.heap.size + 1; omega))
  have C4 := hide ((unhide C2a).kept hT (by show ¬ w2.heap.size = w.heap.size + 1; omega))
  have K4 := hide ((unhide K2a).trans (hT.below (B := w.heap.size) (unhide K2a).size (fun k hk e => by subst e; omega)))
  have S4 := hide hS
  clear hx4 hS hT hz R2a C2a K2a S2a
  go_wp2_with fail
  refine (specTextP n4 (w.heap.size + 1) a cap l st4 _ (unhide S4) (by omega)).mono ?_
  rintro e w5 ⟨rfl, hS, hT, hz⟩
  obtain ⟨y5, st5, hx5⟩ : ∃ x s, takeP n4 st4 = (x, s) := ⟨_, _, rfl⟩
  have hyl : y5.length ≤ n4 := by have := takeP_len n4 st4; rw [hx5] at this; exact this
  have hsz5 := strOfNums_small y5 (by omega)
  have hsz5b : (strOfNums y5).size ≤ 1048576 := by rw [strOfNums_size]; omega
  rw [hx5] at hS ⊢
  have HX5 := hide hx5
  dsimp only at hS ⊢
  have R5' := hide ((unhide R4).kept hT (by show ¬ w.heap.size = w.heap.size + 1; omega))
  have C5' := hide ((unhide C4).kept hT (by show ¬ w2.heap.size = w.heap.size + 1; omega))
  have K5' := hide ((unhide K4).trans (hT.below (B := w.heap.size) (unhide K4).size (fun k hk e => by subst e; omega)))
  have S5' := hide hS
  clear hx5 hS hT hz R4 C4 K4 S4 hyl
  generalize hs5 : strOfNums y5 = s5 at *
  have HS5 := hide hs5
  clear hs5
  have c5 := (unhide C5').cell 2 rfl
  have f5 := (unhide C5').fro 2
  have C7 := hide ((unhide C5').set 2 (.string s5) (by simp))
  have R7 := hide ((unhide R5').other (C := w2.heap.size) 2 (.string s5) (by omega))
  have K7 := hide ((unhide K5').setCell (p := ⟨w2.heap.size, 2, none⟩) (by show w.heap.size ≤ w2.heap.size; omega) (.string s5))
  have S7 := hide ((unhide S5').other (C := w2.heap.size) 2 (.string s5) (by omega))
  simp only [List.set_cons_zero, List.set_cons_succ] at C7
  clear C5' R5' K5' S5'
  go_wp2_with fail
  clear c5 f5
  generalize w5.setCell ⟨w2.heap.size, 2, none⟩ (.string s5) = w7s at *
  have E : Hid (entP (some l) = ((x1, x2, s5), st5)) := hide (by
    have e5 : textP st2 = (y5, st5) := by unfold textP; rw [unhide HX4]; dsimp only; rw [Int.toNat_natCast, unhide HX5]
    simp only [entP, unhide HX1, unhide HX2, e5, unhide HS5])
  clear HX1 HX2 HX4 HX5 HS5 hr3
  have c0 := (unhide C7).cell 0 rfl
  have c1 := (unhide C7).cell 1 rfl
  have c2 := (unhide C7).cell 2 rfl
  have r0 := (unhide R7).cell 0 rfl
  have r1 := (unhide R7).cell 1 rfl
  have r2 := (unhide R7).cell 2 rfl
  have q0 := (unhide R7).fro 0
  have q1 := (unhide R7).fro 1
  have q2 := (unhide R7).fro 2
  have hne1 : w.heap.size ≠ w2.heap.size := by omega
  have hne2 : w2.heap.size ≠ w.heap.size := by omega
  have HH := hide hsz5
  have HH2 := hide hsz5b
  clear hsz5 hsz5b
  cases st5 with
  | none =>
    have HV := hide (show Value.tuple #[entVal (entP (some l)).1, .bool (doneP (entP (some l)).2 && entOK (entP (some l)).1.1 (entP (some l)).1.2.1 (entP (some l)).1.2.2)] = .tuple #[.agg #[.int .i64 x1, .int .i64 x2, .string s5], .bool false] by rw [unhide E]; rfl)
    obtain ⟨p, h0, h1, h2, _, hlt, hp, _, _⟩ := unhide S7
    go_big_region
    go_wp2_with fail
    refine bodyPost_ret (v := .tuple #[.agg #[.int .i64 x1, .int .i64 x2, .string s5], .bool false]) (by simp [results, Try.results50, go_sem, r0, r1, r2]) rfl ⟨?_, ?_⟩
    · rw [unhide HV]
    · exact ((((unhide K7).setCell (p := ⟨w.heap.size, 0, none⟩) (Nat.le_refl _) _).setCell (p := ⟨w.heap.size, 1, none⟩) (Nat.le_refl _) _).setCell (p := ⟨w.heap.size, 2, none⟩) (Nat.le_refl _) _).drew
  | some rs =>
    obtain ⟨p, ⟨h0, h1, h2, _, hlt, hp, _, _⟩, hrs⟩ := unhide S7
    by_cases hpl : p = l.length
    · have HV := hide (show Value.tuple #[entVal (entP (some l)).1, .bool (doneP (entP (some l)).2 && entOK (entP (some l)).1.1 (entP (some l)).1.2.1 (entP (some l)).1.2.2)] = .tuple #[.agg #[.int .i64 x1, .int .i64 x2, .string s5], .bool (entOK x1 x2 s5)] by rw [unhide E, hrs]; dsimp only; rw [doneP_some]; simp [hpl, entVal])
      have hb0 : ((p : Int) == (l.length : Int)) = true := by rw [hpl]; simp
      clear hrs hpl
      go_region_held3 (fun wx => wx.cell? ⟨w2.heap.size, 0, none⟩ = some (.int .i64 x1) ∧ wx.cell? ⟨w2.heap.size, 1, none⟩ = some (.int .i64 x2) ∧ wx.cell? ⟨w2.heap.size, 2, none⟩ = some (.string s5) ∧ wx.cell? ⟨w.heap.size + 1, 1, none⟩ = some (.int .i64 p) ∧ wx.cell? ⟨w.heap.size + 1, 2, none⟩ = some (.bool false)) (go_keep)
        ((go_at_call 52; refine (specEntry_any x1 x2 s5 _ (unhide HH) (unhide HH2)).mono ?_; rintro e w9 ⟨rfl, hb9⟩; have T9 := hide hb9; have g0 := ((unhide C7).kept (T := fun _ => False) (Touch.ofBelow (w := w7s) ⟨hb9.os, hb9.tape, hb9.output, hb9.size, hb9.block⟩) (fun h => h)); have R9 := ((unhide R7).kept (T := fun _ => False) (Touch.ofBelow (w := w7s) ⟨hb9.os, hb9.tape, hb9.output, hb9.size, hb9.block⟩) (fun h => h)); have k0 := g0.cell 0 rfl; have k1 := g0.cell 1 rfl; have k2 := g0.cell 2 rfl; have k5 := (hb9.cell (p := ⟨w.heap.size + 1, 1, none⟩) hlt).trans h1; have k6 := (hb9.cell (p := ⟨w.heap.size + 1, 2, none⟩) hlt).trans h2; have R9' := hide R9; have u0 := R9.cell 0 rfl; have u1 := R9.cell 1 rfl; have u2 := R9.cell 2 rfl; have z0 := R9.fro 0; have z1 := R9.fro 1; have z2 := R9.fro 2; clear hb9 g0 R9))
      go_wp2_with fail
      refine bodyPost_ret (v := .tuple #[.agg #[.int .i64 x1, .int .i64 x2, .string s5], .bool (entOK x1 x2 s5)]) (by simp [results, Try.results50, go_sem, u0, u1, u2]) rfl ⟨?_, ?_⟩
      · rw [unhide HV]
      · have K9 : Below w.heap.size w w9 := (unhide K7).trans (Below.mono ⟨(unhide T9).os, (unhide T9).tape, (unhide T9).output, (unhide T9).size, (unhide T9).block⟩ (unhide K7).size)
        exact (((K9).setCell (p := ⟨w.heap.size, 0, none⟩) (Nat.le_refl _) _).setCell (p := ⟨w.heap.size, 1, none⟩) (Nat.le_refl _) _).setCell (p := ⟨w.heap.size, 2, none⟩) (Nat.le_refl _) _
    · have HV := hide (show Value.tuple #[entVal (entP (some l)).1, .bool (doneP (entP (some l)).2 && entOK (entP (some l)).1.1 (entP (some l)).1.2.1 (entP (some l)).1.2.2)] = .tuple #[.agg #[.int .i64 x1, .int .i64 x2, .string s5], .bool false] by rw [unhide E, hrs]; dsimp only; rw [doneP_some]; simp [entVal]; omega)
      have hb0 : ((p : Int) == (l.length : Int)) = false := by simp; omega
      clear hrs hpl
      go_big_region
      go_wp2_with fail
      refine bodyPost_ret (v := .tuple #[.agg #[.int .i64 x1, .int .i64 x2, .string s5], .bool false]) (by simp [results, Try.results50, go_sem, r0, r1, r2]) rfl ⟨?_, ?_⟩
      · rw [unhide HV]
      · exact ((((unhide K7).setCell (p := ⟨w.heap.size, 0, none⟩) (Nat.le_refl _) _).setCell (p := ⟨w.heap.size, 1, none⟩) (Nat.le_refl _) _).setCell (p := ⟨w.heap.size, 2, none⟩) (Nat.le_refl _) _).drew
end Go.Proofs.Ytpdjfjapdmopoaa
namespace Go.Proofs.Ytpdjfjapdmopoaa
open Go.ChangeShapes Go.WideShapes Go.ChangeAt Go.RowKit
set_option linter.unusedVariables false
set_option linter.unusedSimpArgs false

/-- A record followed, without the bound on entries. -/
def folS (s : St) : Rc → Option St
  | .T a b => some ⟨a, b, s.l⟩
  | .C k => if (s.l.length : Int) < k then none else some ⟨s.tm, s.vo, s.l.take k.toNat⟩
  | .E e => some ⟨s.tm, s.vo, s.l ++ [e]⟩
def stepS (s : St) (t : ByteArray) : Option St :=
  if (rcOf t).2 = true then (match (rcOf t).1 with
    | some rc => folS s rc
    | none => none) else none
theorem fold_ret3 {B : Nat} {w wz : World} {tm vo : Int} {lv x0 x1 x2 : Value} (hr : Blk wz (w.heap.size + 1) [x0, x1, x2]) (hb : Below w.heap.size w wz) :
    Blk (((wz.setCell ⟨w.heap.size + 1, 0, none⟩ (.int .i64 tm)).setCell ⟨w.heap.size + 1, 1, none⟩ (.int .i64 vo)).setCell ⟨w.heap.size + 1, 2, none⟩ lv) (w.heap.size + 1) [.int .i64 tm, .int .i64 vo, lv] ∧ Below w.heap.size w (((wz.setCell ⟨w.heap.size + 1, 0, none⟩ (.int .i64 tm)).setCell ⟨w.heap.size + 1, 1, none⟩ (.int .i64 vo)).setCell ⟨w.heap.size + 1, 2, none⟩ lv) ∧ (∀ l, OwnE B wz lv l → (∀ k, lv.ownBlock = some k → k ≠ w.heap.size + 1) → OwnE B (((wz.setCell ⟨w.heap.size + 1, 0, none⟩ (.int .i64 tm)).setCell ⟨w.heap.size + 1, 1, none⟩ (.int .i64 vo)).setCell ⟨w.heap.size + 1, 2, none⟩ lv) lv l) := by
  have T5 := ((((Touch.refl (fun k => k = w.heap.size + 1) wz).setCell ⟨w.heap.size + 1, 0, none⟩ (.int .i64 tm) (fun _ => rfl)).setCell ⟨w.heap.size + 1, 1, none⟩ (.int .i64 vo) (fun _ => rfl)).setCell ⟨w.heap.size + 1, 2, none⟩ lv (fun _ => rfl))
  exact ⟨((hr.set 0 (.int .i64 tm) (by simp)).set 1 (.int .i64 vo) (by simp)).set 2 lv (by simp), hb.trans (T5.below (B := w.heap.size) hb.size (fun k hk e => by omega)), fun l h hne => OwnE.kept h T5 hne⟩
theorem entRead_ok {b : List Int} (h : b.length ≤ 65536) : (decide ((entRead b).2 = 0) = (doneP (entP (some b)).2 && entOK (entP (some b)).1.1 (entP (some b)).1.2.1 (entP (some b)).1.2.2)) ∧ ((doneP (entP (some b)).2 && entOK (entP (some b)).1.1 (entP (some b)).1.2.1 (entP (some b)).1.2.2) = true → (entRead b).1 = (entP (some b)).1) := by
  unfold entRead
  rw [if_neg (by omega)]
  split
  · rename_i h1; exact ⟨by rw [h1]; rfl, fun _ => rfl⟩
  · rename_i h1; rw [Bool.not_eq_true] at h1; exact ⟨by rw [h1]; rfl, fun h2 => by rw [h1] at h2; cases h2⟩

theorem own_emptyE (w : World) (B g : Nat) (hg : w.heap.size = g) (hB : B ≤ w.heap.size) : (w.alloc (.cells #[] 78)).ownsRow B 78 3 (.slice (some ⟨g, 0, none⟩) 0 0) 0 [] := by
  subst hg
  exact ⟨rfl, .inr ⟨w.heap.size, 0, #[], rfl, hB, heap_new rfl, Nat.le_refl _, by unfold maxLen; omega, rfl, rfl⟩⟩
theorem cutS_done {B n : Nat} {w w3 w7 : World} {tm vo : Int} {lv x0 x1 x2 : Value} {m : List En} {a7 : Option Addr} {c7 : Nat} (hX : Blk (w3.alloc (.cells #[] 78)) w.heap.size [.int .i64 tm, .int .i64 vo, lv]) (hR : Blk (w3.alloc (.cells #[] 78)) (w.heap.size + 1) [x0, x1, x2]) (hK : Below w.heap.size w (w3.alloc (.cells #[] 78))) (h1 : w7.ownsRow B 78 3 (.slice a7 (0 + n) c7) (0 + n) ([] ++ ensC m)) (hg : (w3.alloc (.cells #[] 78)).grownBy w7 (Value.slice (some ⟨w3.heap.size, 0, none⟩) 0 0).ownBlock) (hat : (Value.slice a7 (0 + n) c7).ownBlock = (Value.slice (some ⟨w3.heap.size, 0, none⟩) 0 0).ownBlock ∨ (Value.slice a7 (0 + n) c7).ownBlock = some (w3.alloc (.cells #[] 78)).heap.size) (hn : m.length = n) (hz : w.heap.size + 1 < w3.heap.size) :
    w7.cell? ⟨w.heap.size, 2, none⟩ = some lv ∧ w7.frozen? ⟨w.heap.size, 2, none⟩ = false ∧ Blk (w7.setCell ⟨w.heap.size, 2, none⟩ (.slice a7 (0 + n) c7)) w.heap.size [.int .i64 tm, .int .i64 vo, .slice a7 (0 + n) c7] ∧ Blk (w7.setCell ⟨w.heap.size, 2, none⟩ (.slice a7 (0 + n) c7)) (w.heap.size + 1) [x0, x1, x2] ∧ Below w.heap.size w (w7.setCell ⟨w.heap.size, 2, none⟩ (.slice a7 (0 + n) c7)) ∧ OwnE B (w7.setCell ⟨w.heap.size, 2, none⟩ (.slice a7 (0 + n) c7)) (.slice a7 (0 + n) c7) m ∧ ∀ k, (Value.slice a7 (0 + n) c7).ownBlock = some k → w3.heap.size ≤ k := by
  have hT : Touch (fun k => k = w3.heap.size) (w3.alloc (.cells #[] 78)) w7 := (Touch.refl _ _).grown hg (fun k hk _ => by simpa [Value.ownBlock] using hk.symm)
  have hs := (Touch.refl (fun k => k = w.heap.size) w7).setCell ⟨w.heap.size, 2, none⟩ (.slice a7 (0 + n) c7) (fun _ => rfl)
  have hB7 := hX.kept hT (fun h => by omega)
  have hge : ∀ k, (Value.slice a7 (0 + n) c7).ownBlock = some k → w3.heap.size ≤ k := fun k hk => by
    rcases hat with h0 | h0
    · rw [h0] at hk
      have : w3.heap.size = k := by simpa [Value.ownBlock] using hk
      omega
    · rw [h0] at hk
      have : w3.heap.size + 1 = k := by simpa using hk
      omega
  have hO : OwnE B w7 (.slice a7 (0 + n) c7) m := by
    unfold OwnE
    subst hn
    rw [List.nil_append] at h1
    simpa using h1
  refine ⟨hB7.cell 2 rfl, hB7.fro 2, hB7.set 2 _ (by simp), (hR.kept hT (fun h => by omega)).kept hs (fun h => by omega), (hK.trans (hT.below hK.size (fun k hk e => by omega))).setCell (p := ⟨w.heap.size, 2, none⟩) (Nat.le_refl _) _, OwnE.kept hO hs (fun k hk e => by have := hge k hk; omega), hge⟩
theorem SR.kept2 {T : Nat → Prop} {w w' : World} {b ab o : Nat} {cap : Nat} {l : List Int} {p : Nat} {bad : Bool} (h : SR w b (some ⟨ab, o, none⟩) cap l p bad) (ht : Touch T w w') (hn : ¬ T b) (hn2 : ¬ T ab) : SR w' b (some ⟨ab, o, none⟩) cap l p bad := by
  obtain ⟨h0, h1, h2, hf, hlt, hp, hv, hl⟩ := h
  refine ⟨(ht.cell hlt hn).trans h0, (ht.cell hlt hn).trans h1, (ht.cell hlt hn).trans h2, fun j => (ht.frozen hlt hn).trans (hf j), Nat.lt_of_lt_of_le hlt ht.size, hp, ?_, hl⟩
  obtain ⟨a', cap', hv', q1, q2, hc, hr⟩ := hv
  refine ⟨a', cap', hv', q1, q2, ?_, hr⟩
  rcases hc with h0 | ⟨c, off, ha, hlt', hcell⟩
  · exact .inl h0
  · obtain ⟨e1, _, _⟩ := Value.slice.inj hv'
    rw [ha] at e1
    have e2 : ab = c := by simpa using congrArg Addr.block (Option.some.inj e1)
    subst e2
    exact .inr ⟨ab, off, ha, hlt', fun i hi => (ht.cell (p := ⟨ab, off + i, none⟩) (by simp; omega) hn2).trans (hcell i hi)⟩
theorem SRd.kept2 {T : Nat → Prop} {w w' : World} {b ab o : Nat} {cap : Nat} {l : List Int} {st : Option (List Int)} (h : SRd w b (some ⟨ab, o, none⟩) cap l st) (ht : Touch T w w') (hn : ¬ T b) (hn2 : ¬ T ab) : SRd w' b (some ⟨ab, o, none⟩) cap l st := by
  cases st with
  | none => obtain ⟨p, h⟩ := h; exact ⟨p, h.kept2 ht hn hn2⟩
  | some rs => obtain ⟨p, h, e⟩ := h; exact ⟨p, h.kept2 ht hn hn2, e⟩

theorem en_rw1 (w : World) (f : En) (ty : TypeId) : Rw (w.alloc (.cells #[.int .i64 f.t, .int .i64 f.k, .string f.d] ty)) (.slice (some ⟨w.heap.size, 0, none⟩) 1 1) 1 (enC f) := by
  refine ⟨_, _, rfl, .inr ⟨_, rfl, fun j u hu => ?_⟩⟩
  have N := Blk.new w #[.int .i64 f.t, .int .i64 f.k, .string f.d] ty w.heap.size rfl
  have hadd : (⟨w.heap.size, 0, none⟩ : Addr).add j = ⟨w.heap.size, j, none⟩ := by unfold Addr.add; split <;> simp_all
  rw [hadd]
  exact N.cell j hu
theorem Rw.kept1 {T : Nat → Prop} {w w' : World} {g c m : Nat} {news : List Value} (h : Rw w (.slice (some ⟨g, 0, none⟩) m c) m news) (ht : Touch T w w') (hg : g < w.heap.size) (hn : ¬ T g) : Rw w' (.slice (some ⟨g, 0, none⟩) m c) m news := by
  obtain ⟨a, cap, e, hc⟩ := h
  cases e
  refine ⟨_, _, rfl, ?_⟩
  rcases hc with h0 | ⟨ad, ha, hcell⟩
  · exact .inl h0
  · cases ha
    refine .inr ⟨_, rfl, fun j u hu => ?_⟩
    have hadd : (⟨g, 0, none⟩ : Addr).add j = ⟨g, j, none⟩ := by unfold Addr.add; split <;> simp_all
    have h := hcell j u hu
    rw [hadd] at h ⊢
    exact (ht.cell (p := ⟨g, j, none⟩) hg hn).trans h
theorem ens_Rw {w : World} {B : Nat} {a : Option Addr} {c : Nat} {l : List En} (h : OwnE B w (.slice a l.length c) l) : Rw w (.slice a l.length c) l.length (ensC l) := by
  rcases h.form with ⟨ha, hl0, hcc⟩ | ⟨g, ha, _⟩
  · exact ⟨_, _, rfl, .inl hl0⟩
  · subst ha
    refine ⟨_, _, rfl, .inr ⟨_, rfl, ?_⟩⟩
    have q := ens_rw h l.length (Nat.le_refl _)
    rw [List.take_length] at q
    exact q
theorem grown_below {n0 gb : Nat} {wz u u' : World} (hb : Below n0 wz u) (hg : u.grownBy u' (some gb)) (hn : n0 ≤ gb) (hs : n0 ≤ u.heap.size) : Below n0 wz u' := hb.grown hg hs (fun r hr => by cases hr; exact hn)
/-- What lies behind the E case's region. -/
def FoldE (B : Nat) (w : World) (tm vo : Int) (m : List En) (wx : World) : Prop := ∃ a9 c9, Blk wx w.heap.size [.int .i64 tm, .int .i64 vo, .slice a9 m.length c9] ∧ Blk wx (w.heap.size + 1) [.int .i64 0, .int .i64 0, .slice none 0 0] ∧ Below w.heap.size w wx ∧ OwnE B wx (.slice a9 m.length c9) m ∧ ∀ k, (Value.slice a9 m.length c9).ownBlock = some k → w.heap.size + 2 ≤ k
theorem foldE_fin {B : Nat} {w wz w9 : World} {tm vo : Int} {lv : Value} {l : List En} {f : En} {a9 : Option Addr} {c9 : Nat} (hX : Blk wz w.heap.size [.int .i64 tm, .int .i64 vo, lv]) (hR : Blk wz (w.heap.size + 1) [.int .i64 0, .int .i64 0, .slice none 0 0]) (hK : Below w.heap.size w wz) (hz : w.heap.size + 2 ≤ wz.heap.size) (hb : Below wz.heap.size wz w9)
    (ho : w9.ownsRow B 78 3 (.slice a9 (l.length + 1) c9) (l.length + 1) (ensC l ++ enC f)) (hk : ∀ k, (Value.slice a9 (l.length + 1) c9).ownBlock = some k → wz.heap.size ≤ k) :
    (w9.cell? ⟨w.heap.size, 2, none⟩ = some lv ∧ w9.frozen? ⟨w.heap.size, 2, none⟩ = false) ∧ FoldE B w tm vo (l ++ [f]) (w9.setCell ⟨w.heap.size, 2, none⟩ (.slice a9 (l.length + 1) c9)) := by
  have X9 := hX.below hb
  have R9 := hR.below hb
  have hs := (Touch.refl (fun k => k = w.heap.size) w9).setCell ⟨w.heap.size, 2, none⟩ (.slice a9 (l.length + 1) c9) (fun _ => rfl)
  have hl : (l ++ [f]).length = l.length + 1 := by simp
  refine ⟨⟨X9.cell 2 rfl, X9.fro 2⟩, a9, c9, ?_, R9.kept hs (fun h => by omega), (hK.trans (hb.mono hK.size)).setCell (p := ⟨w.heap.size, 2, none⟩) (Nat.le_refl _) _, ?_, ?_⟩
  · rw [hl]; exact X9.set 2 _ (by simp)
  · rw [hl]
    refine OwnE.kept ?_ hs (fun k hk' e => by have := hk k hk'; omega)
    unfold OwnE
    rw [hl, show ensC (l ++ [f]) = ensC l ++ enC f by simp [ensC]]
    exact ho
  · rw [hl]; intro k hk'; have := hk k hk'; omega
set_option maxRecDepth 100000 in
set_option maxHeartbeats 8000000 in
theorem l05Fold_any (B : Nat) (tm vo : Int) (l : List En) (a : Option Addr) (c : Nat) (t : ByteArray) (w : World) (hO : OwnE B w (.slice a l.length c) l) (hB : B ≤ w.heap.size) (ht : t.size ≤ 65536) (hl : l.length ≤ 60) :
    Calls Try.prog 34 #[.agg #[.int .i64 tm, .int .i64 vo, .slice a l.length c], .string t] w fun e w' => ∃ tm' vo' a' n' c', e = .returned (.tuple #[.agg #[.int .i64 tm', .int .i64 vo', .slice a' n' c'], .bool (stepS ⟨tm, vo, l⟩ t).isSome]) ∧ (∀ s', stepS ⟨tm, vo, l⟩ t = some s' → tm' = s'.tm ∧ vo' = s'.vo ∧ n' = s'.l.length ∧ OwnE B w' (.slice a' n' c') s'.l ∧ ∀ k, (Value.slice a' n' c').ownBlock = some k → (Value.slice a l.length c).ownBlock = some k ∨ w.heap.size ≤ k) ∧ Below w.heap.size w w' := by
  have AA := ((Below.refl w.heap.size w).alloc (Nat.le_refl _) (.cells #[.int .i64 tm, .int .i64 vo, .slice a l.length c] 26)).alloc (by simp) (.cells #[.int .i64 0, .int .i64 0, .slice none 0 0] 26)
  have HX0 := hide ((Blk.new w #[.int .i64 tm, .int .i64 vo, .slice a l.length c] 26 w.heap.size rfl).alloc (.cells #[.int .i64 0, .int .i64 0, .slice none 0 0] 26))
  have HR0 := hide (Blk.new (w.alloc (.cells #[.int .i64 tm, .int .i64 vo, .slice a l.length c] 26)) #[.int .i64 0, .int .i64 0, .slice none 0 0] 26 (w.heap.size + 1) (by simp))
  have HO0 := hide (hO.below AA)
  have HK0 := hide AA
  have HOL : Hid (∀ k, (Value.slice a l.length c).ownBlock = some k → k < w.heap.size) := hide (fun k hk => (World.ownsRow.lt hO k hk).2)
  clear AA hO
  by_cases h0 : t.size = 0
  · have he : t.toList.isEmpty = true := emptyB_iff.2 h0
    have HD := hide (show stepS ⟨tm, vo, l⟩ t = none by unfold stepS rcOf; rw [if_pos h0]; rfl)
    go_enter Try.func34, Try.ntmps34
    go_upto_region 2 with fail
    generalize (w.alloc (.cells #[.int .i64 tm, .int .i64 vo, .slice a l.length c] 26)).alloc (.cells #[.int .i64 0, .int .i64 0, .slice none 0 0] 26) = w0 at *
    have y0 := (unhide HX0).cell 0 rfl
    have y1 := (unhide HX0).cell 1 rfl
    have y2 := (unhide HX0).cell 2 rfl
    have r0 := (unhide HR0).cell 0 rfl
    have r1 := (unhide HR0).cell 1 rfl
    have r2 := (unhide HR0).cell 2 rfl
    have f0 := (unhide HR0).fro 0
    have f1 := (unhide HR0).fro 1
    have f2 := (unhide HR0).fro 2
    have W1 := hide (fold_ret3 (B := B) (tm := tm) (vo := vo) (lv := (.slice a l.length c)) (unhide HR0) (unhide HK0))
    go_wp2_with fail
    generalize ((w0.setCell ⟨w.heap.size + 1, 0, none⟩ (.int .i64 tm)).setCell ⟨w.heap.size + 1, 1, none⟩ (.int .i64 vo)).setCell ⟨w.heap.size + 1, 2, none⟩ (.slice a l.length c) = wf at *
    have z0 := (unhide W1).1.cell 0 rfl
    have z1 := (unhide W1).1.cell 1 rfl
    have z2 := (unhide W1).1.cell 2 rfl
    refine bodyPost_ret (v := .tuple #[.agg #[.int .i64 tm, .int .i64 vo, (.slice a l.length c)], .bool false]) (by simp [results, Try.results34, go_sem, z0, z1, z2]) rfl ?_
    rw [unhide HD]
    exact ⟨_, _, _, _, _, rfl, fun s' h => (by cases h), (unhide W1).2.1⟩
  have he : t.toList.isEmpty = false := by
    rw [← Bool.not_eq_true]; exact fun h => h0 (emptyB_iff.1 h)
  have h1 : (1 : Int) ≤ (t.size : Int) := by omega
  have e0 := bAt_eq t 0 (by omega)
  have l0 := bAt_lo t 0
  have k0 := bAt_hi t 0
  have HOF := hide (show rcOf t = _ by unfold rcOf; rw [if_neg h0])
  have hts : ((bytesI t).length : Int) = (t.size : Int) := by rw [bytesI_len2]
  go_enter Try.func34, Try.ntmps34
  go_upto_region 3 with fail
  generalize (w.alloc (.cells #[.int .i64 tm, .int .i64 vo, .slice a l.length c] 26)).alloc (.cells #[.int .i64 0, .int .i64 0, .slice none 0 0] 26) = w0 at *
  obtain ⟨cap1, w1, hcv, hRd, hb1⟩ := str_bytes t w0 (by unfold maxLen; omega)
  have hbl : (bytesI t).length ≤ 65536 := by rw [bytesI_len2]; exact ht
  have hbp : 1 ≤ (bytesI t).length := by rw [bytesI_len2]; omega
  have HDR : Hid (bytesI (t.extract 1 t.size) = (bytesI t).drop 1) := hide (bytes_ext t (by omega))
  have AB := (Below.refl w1.heap.size w1).alloc (Nat.le_refl _) (.cells #[.slice (some ⟨w0.heap.size, 0, none⟩) (bytesI t).length cap1, .int .i64 1, .bool false] 101)
  have HS2 : Hid (SRd (w1.alloc (.cells #[.slice (some ⟨w0.heap.size, 0, none⟩) (bytesI t).length cap1, .int .i64 1, .bool false] 101)) w1.heap.size (some ⟨w0.heap.size, 0, none⟩) cap1 (bytesI t) (some ((bytesI t).drop 1))) := hide (by
    have hB := Blk.new w1 #[.slice (some ⟨w0.heap.size, 0, none⟩) (bytesI t).length cap1, .int .i64 1, .bool false] 101 w1.heap.size rfl
    exact ⟨1, ⟨hB.cell 0 rfl, hB.cell 1 rfl, hB.cell 2 rfl, hB.2.2, hB.1, hbp, hRd.kept (T := fun _ => False) (Nat.le_refl _) ((Touch.refl _ _).alloc _) (fun _ _ h => h), hbl⟩, rfl⟩)
  have HX2 := hide (((unhide HX0).below hb1).below AB)
  have HR2 := hide (((unhide HR0).below hb1).below AB)
  have HO2 := hide (((unhide HO0).below hb1).below AB)
  have HK2 := hide (((unhide HK0).trans (hb1.mono (unhide HK0).size)).trans (AB.mono (Nat.le_trans (unhide HK0).size hb1.size)))
  have hzw : w.heap.size + 2 ≤ w1.heap.size := Nat.le_trans (unhide HR0).1 hb1.size
  have hza : w.heap.size + 2 ≤ w0.heap.size := (unhide HR0).1
  have HZ2 : Hid ((w1.alloc (.cells #[.slice (some ⟨w0.heap.size, 0, none⟩) (bytesI t).length cap1, .int .i64 1, .bool false] 101)).heap.size = w1.heap.size + 1) := hide (by simp)
  go_upto_region 4 with fail
  clear hcv hRd hb1 AB HX0 HR0 HO0 HK0
  generalize w1.alloc (.cells #[.slice (some ⟨w0.heap.size, 0, none⟩) (bytesI t).length cap1, .int .i64 1, .bool false] 101) = w2 at *
  generalize w0.heap.size = ab at *
  generalize w1.heap.size = qb at *
  generalize bytesI t = bl at *
  generalize bAt t 0 = ch at *
  have hx0 := (unhide HX2).fro 0
  by_cases c1 : ch = 84
  · have hcb : (ch == 84) = true := by rw [beq_iff_eq]; exact c1
    rw [if_pos c1] at HOF
    have N1 := hide (specNumberP 4 4 rfl qb _ _ bl (some (bl.drop 1)) w2 (unhide HS2) (by omega) (by omega))
    have hr1 := (takeP_range (unhide HS2).range 4).2
    obtain ⟨x1, hx1⟩ : ∃ x1, x1 = (numP 4 (some (bl.drop 1))).1 := ⟨_, rfl⟩
    obtain ⟨s1, hs1⟩ : ∃ s1, s1 = (numP 4 (some (bl.drop 1))).2 := ⟨_, rfl⟩
    have hs1r : rangeP s1 := by rw [hs1]; exact hr1
    rw [← hx1, ← hs1] at N1 HOF
    obtain ⟨x2, hx2⟩ : ∃ x2, x2 = (numP 1 s1).1 := ⟨_, rfl⟩
    obtain ⟨s2, hs2⟩ : ∃ s2, s2 = (numP 1 s1).2 := ⟨_, rfl⟩
    have hr2 := num1_range hs1r
    rw [← hx2] at hr2
    rw [← hx2, ← hs2] at HOF
    have N2 := hide (fun wx (h : SRd wx qb (some ⟨ab, 0, none⟩) cap1 bl s1) => specNumberP 1 1 rfl qb _ _ bl s1 wx h (by omega) (by omega))
    rw [← hx2, ← hs2] at N2
    have mw := wrapSg (x2 - 1) (by omega) (by omega)
    have HST : Hid (stepS ⟨tm, vo, l⟩ t = if doneP s2 = true then some ⟨x1, x2 - 1, l⟩ else none) := hide (by unfold stepS; rw [unhide HOF]; rfl)
    clear hx1 hs1 hx2 hs2 hr1 hs1r
    go_wp2_with fail
    refine (unhide N1).mono ?_
    rintro e w3 ⟨rfl, hS3, hT3, hz3⟩
    have X3 := (unhide HX2).kept hT3 (fun e => by omega)
    have R3 := (unhide HR2).kept hT3 (fun e => by omega)
    have O3 := (unhide HO2).kept hT3 (fun k hk e => by have := unhide HOL k hk; omega)
    have K3 := (unhide HK2).trans (hT3.below (unhide HK2).size (fun k hk e => by omega))
    have y0 := X3.cell 0 rfl
    have g0 := X3.fro 0
    have tt := (Touch.refl (fun k => k = w.heap.size) w3).setCell ⟨w.heap.size, 0, none⟩ (.int .i64 x1) (fun _ => rfl)
    have HX3 := hide (X3.set 0 (.int .i64 x1) (by simp))
    have HR3 := hide (R3.kept tt (fun e => by omega))
    have HO3 := hide (OwnE.kept O3 tt (fun k hk e => by have := unhide HOL k hk; omega))
    have HS3 := hide (hS3.kept2 tt (by omega) (by omega))
    have HK3 := hide (K3.setCell (p := ⟨w.heap.size, 0, none⟩) (Nat.le_refl _) (.int .i64 x1))
    simp only [List.set_cons_zero, List.set_cons_succ] at HX3
    clear X3 R3 O3 K3 tt hS3 hT3 hz3 N1
    go_wp2_with fail
    clear y0 g0
    generalize w3.setCell ⟨w.heap.size, 0, none⟩ (.int .i64 x1) = w4 at *
    refine (unhide N2 w4 (unhide HS3)).mono ?_
    rintro e w5 ⟨rfl, hS5, hT5, hz5⟩
    have X5 := (unhide HX3).kept hT5 (fun e => by omega)
    have R5 := (unhide HR3).kept hT5 (fun e => by omega)
    have O5 := (unhide HO3).kept hT5 (fun k hk e => by have := unhide HOL k hk; omega)
    have K5 := (unhide HK3).trans (hT5.below (unhide HK3).size (fun k hk e => by omega))
    have y1 := X5.cell 1 rfl
    have g1 := X5.fro 1
    have tt := (Touch.refl (fun k => k = w.heap.size) w5).setCell ⟨w.heap.size, 1, none⟩ (.int .i64 (x2 - 1)) (fun _ => rfl)
    have HX5 := hide (X5.set 1 (.int .i64 (x2 - 1)) (by simp))
    have HR5 := hide (R5.kept tt (fun e => by omega))
    have HO5 := hide (OwnE.kept O5 tt (fun k hk e => by have := unhide HOL k hk; omega))
    have HS5 := hide (hS5.kept2 tt (by omega) (by omega))
    have HK5 := hide (K5.setCell (p := ⟨w.heap.size, 1, none⟩) (Nat.le_refl _) (.int .i64 (x2 - 1)))
    simp only [List.set_cons_zero, List.set_cons_succ] at HX5
    clear X5 R5 O5 K5 tt hS5 hT5 hz5 N2 HX3 HR3 HO3 HS3 HK3
    go_wp2_with fail
    clear y1 g1
    generalize w5.setCell ⟨w.heap.size, 1, none⟩ (.int .i64 (x2 - 1)) = w6 at *
    have y0 := (unhide HX5).cell 0 rfl
    have y1 := (unhide HX5).cell 1 rfl
    have y2 := (unhide HX5).cell 2 rfl
    have r0 := (unhide HR5).cell 0 rfl
    have r1 := (unhide HR5).cell 1 rfl
    have r2 := (unhide HR5).cell 2 rfl
    have f0 := (unhide HR5).fro 0
    have f1 := (unhide HR5).fro 1
    have f2 := (unhide HR5).fro 2
    have hne1 : w.heap.size ≠ w.heap.size + 1 := by omega
    have hne2 : w.heap.size + 1 ≠ w.heap.size := by omega
    have W1 := hide (fold_ret3 (B := B) (tm := x1) (vo := x2 - 1) (lv := (.slice a l.length c)) (unhide HR5) (unhide HK5))
    have HOW := hide ((unhide W1).2.2 l (unhide HO5) (fun k hk e => by have := unhide HOL k hk; omega))
    cases s2 with
    | none =>
      obtain ⟨p, q0, q1, q2, _, hlt, hp, _, _⟩ := unhide HS5
      have HD := hide (show stepS ⟨tm, vo, l⟩ t = none by rw [unhide HST]; rfl)
      go_big_region
      go_wp2_with fail
      refine bodyPost_ret (v := .tuple #[.agg #[.int .i64 x1, .int .i64 (x2 - 1), (.slice a l.length c)], .bool false]) (by simp [results, Try.results34, go_sem, r0, r1, r2]) rfl ?_
      rw [unhide HD]
      exact ⟨_, _, _, _, _, rfl, fun s' h => (by cases h), (unhide W1).2.1.drew⟩
    | some rs =>
      obtain ⟨p, ⟨q0, q1, q2, _, hlt, hp, _, _⟩, hrs⟩ := unhide HS5
      by_cases hpl : p = bl.length
      · have HD := hide (show stepS ⟨tm, vo, l⟩ t = some ⟨x1, x2 - 1, l⟩ by rw [unhide HST, hrs, doneP_some, if_pos (by simp; omega)])
        have hb0 : ((p : Int) == (t.size : Int)) = true := by rw [beq_iff_eq]; omega
        clear hrs hpl
        go_big_region
        go_wp2_with fail
        refine bodyPost_ret (v := .tuple #[.agg #[.int .i64 x1, .int .i64 (x2 - 1), (.slice a l.length c)], .bool true]) (by simp [results, Try.results34, go_sem, r0, r1, r2]) rfl ?_
        rw [unhide HD]
        exact ⟨_, _, _, _, _, rfl, fun s' h => (by cases h; exact ⟨rfl, rfl, rfl, (unhide HOW).drewN 1, fun k hk => .inl hk⟩), (unhide W1).2.1.drew⟩
      · have HD := hide (show stepS ⟨tm, vo, l⟩ t = none by rw [unhide HST, hrs, doneP_some, if_neg (by simp; omega)])
        have hb0 : ((p : Int) == (t.size : Int)) = false := by rw [beq_eq_false_iff_ne]; omega
        clear hrs hpl
        go_big_region
        go_wp2_with fail
        refine bodyPost_ret (v := .tuple #[.agg #[.int .i64 x1, .int .i64 (x2 - 1), (.slice a l.length c)], .bool false]) (by simp [results, Try.results34, go_sem, r0, r1, r2]) rfl ?_
        rw [unhide HD]
        exact ⟨_, _, _, _, _, rfl, fun s' h => (by cases h), (unhide W1).2.1.drew⟩
  have hcb1 : (ch == 84) = false := by rw [beq_eq_false_iff_ne]; exact c1
  by_cases c2 : ch = 67
  · have hcb : (ch == 67) = true := by rw [beq_iff_eq]; exact c2
    rw [if_neg c1, if_pos c2] at HOF
    have N1 := hide (specNumberP 4 4 rfl qb _ _ bl (some (bl.drop 1)) w2 (unhide HS2) (by omega) (by omega))
    have hk4 := num4_range (unhide HS2).range
    obtain ⟨x1, hx1⟩ : ∃ x1, x1 = (numP 4 (some (bl.drop 1))).1 := ⟨_, rfl⟩
    obtain ⟨s1, hs1⟩ : ∃ s1, s1 = (numP 4 (some (bl.drop 1))).2 := ⟨_, rfl⟩
    rw [← hx1] at hk4
    rw [← hx1, ← hs1] at N1 HOF
    have HST : Hid (stepS ⟨tm, vo, l⟩ t = if doneP s1 = true then (if (l.length : Int) < x1 then none else some ⟨tm, vo, l.take x1.toNat⟩) else none) := hide (by unfold stepS; rw [unhide HOF]; rfl)
    clear hx1 hs1
    go_wp2_with fail
    refine (unhide N1).mono ?_
    rintro e w3 ⟨rfl, hS3, hT3, hz3⟩
    have HX3 := hide ((unhide HX2).kept hT3 (fun e => by omega))
    have HR3 := hide ((unhide HR2).kept hT3 (fun e => by omega))
    have HO3 := hide ((unhide HO2).kept hT3 (fun k hk e => by have := unhide HOL k hk; omega))
    have HK3 := hide ((unhide HK2).trans (hT3.below (unhide HK2).size (fun k hk e => by omega)))
    have hz3' : qb < w3.heap.size := by
      have := unhide HZ2
      have := hT3.size
      omega
    clear hT3 hz3 N1
    cases s1 with
    | none =>
      obtain ⟨p, q0, q1, q2, _, hlt, hp, _, _⟩ := hS3
      have HD := hide (show stepS ⟨tm, vo, l⟩ t = none by rw [unhide HST]; rfl)
      have y0 := (unhide HX3).cell 0 rfl
      have y1 := (unhide HX3).cell 1 rfl
      have y2 := (unhide HX3).cell 2 rfl
      have r0 := (unhide HR3).cell 0 rfl
      have r1 := (unhide HR3).cell 1 rfl
      have r2 := (unhide HR3).cell 2 rfl
      have f0 := (unhide HR3).fro 0
      have f1 := (unhide HR3).fro 1
      have f2 := (unhide HR3).fro 2
      have W1 := hide (fold_ret3 (B := B) (tm := tm) (vo := vo) (lv := (.slice a l.length c)) (unhide HR3) (unhide HK3))
      go_wp2_with fail
      generalize ((w3.setCell ⟨w.heap.size + 1, 0, none⟩ (.int .i64 tm)).setCell ⟨w.heap.size + 1, 1, none⟩ (.int .i64 vo)).setCell ⟨w.heap.size + 1, 2, none⟩ (.slice a l.length c) = wf at *
      have z0 := (unhide W1).1.cell 0 rfl
      have z1 := (unhide W1).1.cell 1 rfl
      have z2 := (unhide W1).1.cell 2 rfl
      refine bodyPost_ret (v := .tuple #[.agg #[.int .i64 tm, .int .i64 vo, (.slice a l.length c)], .bool false]) (by simp [results, Try.results34, go_sem, z0, z1, z2]) rfl ?_
      rw [unhide HD]
      exact ⟨_, _, _, _, _, rfl, fun s' h => (by cases h), (unhide W1).2.1⟩
    | some rs =>
      obtain ⟨p, ⟨q0, q1, q2, _, hlt, hp, _, _⟩, hrs⟩ := hS3
      by_cases hpl : p = bl.length
      case neg =>
        have HD := hide (show stepS ⟨tm, vo, l⟩ t = none by rw [unhide HST, hrs, doneP_some, if_neg (by simp; omega)])
        have hb0 : ((p : Int) == (t.size : Int)) = false := by rw [beq_eq_false_iff_ne]; omega
        have hb1 : ((p : Int) != (t.size : Int)) = true := by rw [bne, hb0]; rfl
        have hb2 : ¬ p = t.size := by omega
        clear hrs hpl
        have y0 := (unhide HX3).cell 0 rfl
        have y1 := (unhide HX3).cell 1 rfl
        have y2 := (unhide HX3).cell 2 rfl
        have r0 := (unhide HR3).cell 0 rfl
        have r1 := (unhide HR3).cell 1 rfl
        have r2 := (unhide HR3).cell 2 rfl
        have f0 := (unhide HR3).fro 0
        have f1 := (unhide HR3).fro 1
        have f2 := (unhide HR3).fro 2
        have W1 := hide (fold_ret3 (B := B) (tm := tm) (vo := vo) (lv := (.slice a l.length c)) (unhide HR3) (unhide HK3))
        go_wp2_with fail
        generalize ((w3.setCell ⟨w.heap.size + 1, 0, none⟩ (.int .i64 tm)).setCell ⟨w.heap.size + 1, 1, none⟩ (.int .i64 vo)).setCell ⟨w.heap.size + 1, 2, none⟩ (.slice a l.length c) = wf at *
        have z0 := (unhide W1).1.cell 0 rfl
        have z1 := (unhide W1).1.cell 1 rfl
        have z2 := (unhide W1).1.cell 2 rfl
        refine bodyPost_ret (v := .tuple #[.agg #[.int .i64 tm, .int .i64 vo, (.slice a l.length c)], .bool false]) (by simp [results, Try.results34, go_sem, z0, z1, z2]) rfl ?_
        rw [unhide HD]
        exact ⟨_, _, _, _, _, rfl, fun s' h => (by cases h), (unhide W1).2.1⟩
      have hb0 : ((p : Int) == (t.size : Int)) = true := by rw [beq_iff_eq]; omega
      have hb1 : ((p : Int) != (t.size : Int)) = false := by rw [bne, hb0]; rfl
      have hb2 : p = t.size := by omega
      rw [hrs, doneP_some, if_pos (by simp; omega)] at HST
      clear hrs hpl
      by_cases hkl : (l.length : Int) < x1
      · have HD := hide (show stepS ⟨tm, vo, l⟩ t = none by rw [unhide HST, if_pos hkl])
        have y0 := (unhide HX3).cell 0 rfl
        have y1 := (unhide HX3).cell 1 rfl
        have y2 := (unhide HX3).cell 2 rfl
        have r0 := (unhide HR3).cell 0 rfl
        have r1 := (unhide HR3).cell 1 rfl
        have r2 := (unhide HR3).cell 2 rfl
        have f0 := (unhide HR3).fro 0
        have f1 := (unhide HR3).fro 1
        have f2 := (unhide HR3).fro 2
        have W1 := hide (fold_ret3 (B := B) (tm := tm) (vo := vo) (lv := (.slice a l.length c)) (unhide HR3) (unhide HK3))
        go_wp2_with fail
        generalize ((w3.setCell ⟨w.heap.size + 1, 0, none⟩ (.int .i64 tm)).setCell ⟨w.heap.size + 1, 1, none⟩ (.int .i64 vo)).setCell ⟨w.heap.size + 1, 2, none⟩ (.slice a l.length c) = wf at *
        have z0 := (unhide W1).1.cell 0 rfl
        have z1 := (unhide W1).1.cell 1 rfl
        have z2 := (unhide W1).1.cell 2 rfl
        refine bodyPost_ret (v := .tuple #[.agg #[.int .i64 tm, .int .i64 vo, (.slice a l.length c)], .bool false]) (by simp [results, Try.results34, go_sem, z0, z1, z2]) rfl ?_
        rw [unhide HD]
        exact ⟨_, _, _, _, _, rfl, fun s' h => (by cases h), (unhide W1).2.1⟩
      obtain ⟨n, rfl⟩ : ∃ n : Nat, x1 = (n : Int) := ⟨x1.toNat, by omega⟩
      have HD := hide (show stepS ⟨tm, vo, l⟩ t = some ⟨tm, vo, l.take n⟩ by rw [unhide HST, if_neg hkl, Int.toNat_natCast])
      have hnl : n ≤ l.length := by omega
      have hkb : ¬ (l.length : Int) < (n : Int) := hkl
      have y2 := (unhide HX3).cell 2 rfl
      have AE := (Below.refl w3.heap.size w3).alloc (Nat.le_refl _) (.cells #[] 78)
      have HX4 := hide ((unhide HX3).below AE)
      have y2a := (unhide HX4).cell 2 rfl
      have HR4 := hide ((unhide HR3).below AE)
      have HO4 := hide ((unhide HO3).below AE)
      have HK4 := hide ((unhide HK3).trans (AE.mono (unhide HK3).size))
      have HE4 := hide (own_emptyE w3 B w3.heap.size rfl (Nat.le_trans hB (unhide HK3).size))
      obtain ⟨i0, hi, hz0, hz1, hz2⟩ := info_parts infoEn
      have q0' : (n : Int) ≤ (l.length : Int) := by omega
      have hln : (l.take n).length = n := by rw [List.length_take]; omega
      have hlc : (ensC (l.take n)).length = n * 3 := by rw [ensC_len, hln]
      have hone : ∀ u ∈ ensC (l.take n), u.oneCell' = true := fun u hu => by
        obtain ⟨e, _, he⟩ := List.mem_flatMap.1 hu
        simp only [enC, List.mem_cons, List.mem_nil_iff, or_false] at he
        rcases he with rfl | rfl | rfl <;> rfl
      have HLN := hide hln
      have hzB : B ≤ (w3.alloc (.cells #[] 78)).heap.size := Nat.le_trans (Nat.le_trans hB (unhide HK3).size) AE.size
      clear hln AE
      rcases (unhide HO3).form with ⟨ha, hl0, hcc⟩ | ⟨g, ha, hg1, hg2, hg3, hg4⟩
      · obtain rfl : n = 0 := by omega
        subst ha hcc
        obtain rfl : l = [] := List.eq_nil_of_length_eq_zero hl0
        go_upto_region 14 with (at_builtin; refine wpList_append_row _ rfl _ _ _ rfl B 78 i0 _ 3 32 Try.underlying24 hi hz0 hz1 hz2 rfl (by omega) (.slice (some ⟨w3.heap.size, 0, none⟩) 0 0) 0 [] rfl (unhide HE4) (.slice none 0 0) 0 [] rfl ⟨_, _, rfl, .inl rfl⟩ (by simp) (by simp) (by unfold maxLen; omega) (by omega) hzB ?_; intro a7 c7 w7 hown7 hgrow7 hat7; have P7 := cutS_done (m := []) (unhide HX4) (unhide HR4) (unhide HK4) hown7 hgrow7 hat7 rfl (by omega); have hc7 := P7.1; have hf7 := P7.2.1)
        have R0 := P7.2.2
        rw [Nat.zero_add] at R0
        have HP := hide R0
        clear P7 hc7 hf7 hown7 hgrow7 hat7 R0 y2 y2a
        generalize w7.setCell ⟨w.heap.size, 2, none⟩ (.slice a7 0 c7) = w8 at *
        have HX8 := hide (unhide HP).1
        have HR8 := hide (unhide HP).2.1
        have HK8 := hide (unhide HP).2.2.1
        have y0 := (unhide HX8).cell 0 rfl
        have y1 := (unhide HX8).cell 1 rfl
        have y2 := (unhide HX8).cell 2 rfl
        have r0 := (unhide HR8).cell 0 rfl
        have r1 := (unhide HR8).cell 1 rfl
        have r2 := (unhide HR8).cell 2 rfl
        have f0 := (unhide HR8).fro 0
        have f1 := (unhide HR8).fro 1
        have f2 := (unhide HR8).fro 2
        have W1 := hide (fold_ret3 (B := B) (tm := tm) (vo := vo) (lv := (.slice a7 0 c7)) (unhide HR8) (unhide HK8))
        go_wp2_with fail
        generalize ((w8.setCell ⟨w.heap.size + 1, 0, none⟩ (.int .i64 tm)).setCell ⟨w.heap.size + 1, 1, none⟩ (.int .i64 vo)).setCell ⟨w.heap.size + 1, 2, none⟩ (.slice a7 0 c7) = wf at *
        have z0 := (unhide W1).1.cell 0 rfl
        have z1 := (unhide W1).1.cell 1 rfl
        have z2 := (unhide W1).1.cell 2 rfl
        refine bodyPost_ret (v := .tuple #[.agg #[.int .i64 tm, .int .i64 vo, (.slice a7 0 c7)], .bool true]) (by simp [results, Try.results34, go_sem, z0, z1, z2]) rfl ?_
        rw [unhide HD]
        exact ⟨_, _, _, _, _, rfl, fun s' h => (by cases h; exact ⟨rfl, rfl, (unhide HLN).symm, (unhide W1).2.2 _ (unhide HP).2.2.2.1 (fun k hk e => by have := (unhide HP).2.2.2.2 k hk; omega), fun k hk => .inr (by have := (unhide HP).2.2.2.2 k hk; have := (unhide HK3).size; omega)⟩), (unhide W1).2.1⟩
      · subst ha
        have q1' : (n : Int) ≤ (c : Int) := by omega
        have q2' : c ≤ 9223372036854775807 := by unfold maxLen at hg4; omega
        have hrw := hide (ens_rw (unhide HO4) n hnl)
        go_upto_region 14 with (at_builtin; refine wpList_append_row _ rfl _ _ _ rfl B 78 i0 _ 3 32 Try.underlying24 hi hz0 hz1 hz2 rfl (by omega) (.slice (some ⟨w3.heap.size, 0, none⟩) 0 0) 0 [] rfl (unhide HE4) (.slice (some ⟨g, 0, none⟩) n c) n (ensC (l.take n)) rfl ⟨_, _, rfl, .inr ⟨_, rfl, unhide hrw⟩⟩ hlc hone (by unfold maxLen; omega) (by omega) hzB ?_; intro a7 c7 w7 hown7 hgrow7 hat7; have P7 := cutS_done (unhide HX4) (unhide HR4) (unhide HK4) hown7 hgrow7 hat7 (unhide HLN) (by omega); have hc7 := P7.1; have hf7 := P7.2.1)
        have R0 := P7.2.2
        rw [Nat.zero_add] at R0
        have HP := hide R0
        clear P7 hc7 hf7 hown7 hgrow7 hat7 R0 y2 y2a
        generalize w7.setCell ⟨w.heap.size, 2, none⟩ (.slice a7 n c7) = w8 at *
        have HX8 := hide (unhide HP).1
        have HR8 := hide (unhide HP).2.1
        have HK8 := hide (unhide HP).2.2.1
        have y0 := (unhide HX8).cell 0 rfl
        have y1 := (unhide HX8).cell 1 rfl
        have y2 := (unhide HX8).cell 2 rfl
        have r0 := (unhide HR8).cell 0 rfl
        have r1 := (unhide HR8).cell 1 rfl
        have r2 := (unhide HR8).cell 2 rfl
        have f0 := (unhide HR8).fro 0
        have f1 := (unhide HR8).fro 1
        have f2 := (unhide HR8).fro 2
        have W1 := hide (fold_ret3 (B := B) (tm := tm) (vo := vo) (lv := (.slice a7 n c7)) (unhide HR8) (unhide HK8))
        go_wp2_with fail
        generalize ((w8.setCell ⟨w.heap.size + 1, 0, none⟩ (.int .i64 tm)).setCell ⟨w.heap.size + 1, 1, none⟩ (.int .i64 vo)).setCell ⟨w.heap.size + 1, 2, none⟩ (.slice a7 n c7) = wf at *
        have z0 := (unhide W1).1.cell 0 rfl
        have z1 := (unhide W1).1.cell 1 rfl
        have z2 := (unhide W1).1.cell 2 rfl
        refine bodyPost_ret (v := .tuple #[.agg #[.int .i64 tm, .int .i64 vo, (.slice a7 n c7)], .bool true]) (by simp [results, Try.results34, go_sem, z0, z1, z2]) rfl ?_
        rw [unhide HD]
        exact ⟨_, _, _, _, _, rfl, fun s' h => (by cases h; exact ⟨rfl, rfl, (unhide HLN).symm, (unhide W1).2.2 _ (unhide HP).2.2.2.1 (fun k hk e => by have := (unhide HP).2.2.2.2 k hk; omega), fun k hk => .inr (by have := (unhide HP).2.2.2.2 k hk; have := (unhide HK3).size; omega)⟩), (unhide W1).2.1⟩
  have hcb2 : (ch == 67) = false := by rw [beq_eq_false_iff_ne]; exact c2
  by_cases c3 : ch = 69
  case neg =>
    have hcb3 : (ch == 69) = false := by rw [beq_eq_false_iff_ne]; exact c3
    rw [if_neg c1, if_neg c2, if_neg c3] at HOF
    have HD := hide (show stepS ⟨tm, vo, l⟩ t = none by unfold stepS; rw [unhide HOF]; rfl)
    have y0 := (unhide HX2).cell 0 rfl
    have y1 := (unhide HX2).cell 1 rfl
    have y2 := (unhide HX2).cell 2 rfl
    have r0 := (unhide HR2).cell 0 rfl
    have r1 := (unhide HR2).cell 1 rfl
    have r2 := (unhide HR2).cell 2 rfl
    have f0 := (unhide HR2).fro 0
    have f1 := (unhide HR2).fro 1
    have f2 := (unhide HR2).fro 2
    have W1 := hide (fold_ret3 (B := B) (tm := tm) (vo := vo) (lv := (.slice a l.length c)) (unhide HR2) (unhide HK2))
    go_wp2_with fail
    generalize ((w2.setCell ⟨w.heap.size + 1, 0, none⟩ (.int .i64 tm)).setCell ⟨w.heap.size + 1, 1, none⟩ (.int .i64 vo)).setCell ⟨w.heap.size + 1, 2, none⟩ (.slice a l.length c) = wf at *
    have z0 := (unhide W1).1.cell 0 rfl
    have z1 := (unhide W1).1.cell 1 rfl
    have z2 := (unhide W1).1.cell 2 rfl
    refine bodyPost_ret (v := .tuple #[.agg #[.int .i64 tm, .int .i64 vo, (.slice a l.length c)], .bool false]) (by simp [results, Try.results34, go_sem, z0, z1, z2]) rfl ?_
    rw [unhide HD]
    exact ⟨_, _, _, _, _, rfl, fun s' h => (by cases h), (unhide W1).2.1⟩
  have hcb3 : (ch == 69) = true := by rw [beq_iff_eq]; exact c3
  rw [if_neg c1, if_neg c2, if_pos c3] at HOF
  have hex : (t.extract 1 t.size).size ≤ t.size := by rw [ByteArray.size_extract]; omega
  obtain ⟨cap4, w4, hcv4, hRd4, hb4⟩ := str_bytes (t.extract 1 t.size) w2 (by unfold maxLen; omega)
  rw [unhide HDR] at hcv4 hRd4
  obtain ⟨hek1, hek2⟩ := entRead_ok (b := bl.drop 1) (by rw [List.length_drop]; omega)
  rw [hek1] at HOF
  have E1 := l02ReadEntry_any _ _ (bl.drop 1) w4 hRd4 (by rw [List.length_drop]; omega)
  rw [List.length_drop] at E1 hcv4
  replace E1 := hide E1
  have HST : Hid (stepS ⟨tm, vo, l⟩ t = if (doneP (entP (some (bl.drop 1))).2 && entOK (entP (some (bl.drop 1))).1.1 (entP (some (bl.drop 1))).1.2.1 (entP (some (bl.drop 1))).1.2.2) = true then some ⟨tm, vo, l ++ [⟨(entP (some (bl.drop 1))).1.1, (entP (some (bl.drop 1))).1.2.1, (entP (some (bl.drop 1))).1.2.2⟩]⟩ else none) := hide (by
    unfold stepS
    rw [unhide HOF]
    dsimp only
    split
    · rename_i h; rw [hek2 h]; rfl
    · rfl)
  generalize (doneP (entP (some (bl.drop 1))).2 && entOK (entP (some (bl.drop 1))).1.1 (entP (some (bl.drop 1))).1.2.1 (entP (some (bl.drop 1))).1.2.2) = okv at *
  generalize (entP (some (bl.drop 1))).1 = ev at *
  obtain ⟨et, ek, ed⟩ := ev
  dsimp only [entVal] at E1 HST
  have h1i : (1 : Int) ≤ (t.size : Int) := h1
  go_wp2_with fail
  clear hcv4
  refine (unhide E1).mono ?_
  rintro e w5 ⟨rfl, hb5⟩
  have AE := (Below.refl w5.heap.size w5).alloc (Nat.le_refl _) (.cells #[.int .i64 et, .int .i64 ek, .string ed] 78)
  have HX5 := hide ((((unhide HX2).below hb4).below hb5).below AE)
  have HR5 := hide ((((unhide HR2).below hb4).below hb5).below AE)
  have HO5 := hide ((((unhide HO2).below hb4).below hb5).below AE)
  have HK5 := hide ((((unhide HK2).trans (hb4.mono (unhide HK2).size)).trans (hb5.mono (Nat.le_trans (unhide HK2).size hb4.size))).trans (AE.mono (Nat.le_trans (Nat.le_trans (unhide HK2).size hb4.size) hb5.size)))
  have HY5 := hide (Blk.new w5 #[.int .i64 et, .int .i64 ek, .string ed] 78 w5.heap.size rfl)
  have hz5 : w.heap.size + 2 ≤ w5.heap.size := Nat.le_trans (unhide HR2).1 (Nat.le_trans hb4.size hb5.size)
  have hz6 : w.heap.size + 2 ≤ (w5.alloc (.cells #[.int .i64 et, .int .i64 ek, .string ed] 78)).heap.size := Nat.le_trans hz5 AE.size
  clear hRd4 hb4 hb5 AE E1 HX2 HR2 HO2 HK2 HS2
  go_upto_region 17 with fail
  generalize w5.alloc (.cells #[.int .i64 et, .int .i64 ek, .string ed] 78) = wz at *
  generalize w5.heap.size = yb at *
  have HBZ := hide ((Below.refl wz.heap.size wz).drew)
  have HB0 : Hid (Below wz.heap.size wz (wz.drew.alloc (.cells #[] 78))) := hide ((unhide HBZ).alloc (Nat.le_refl _) _)
  have HB5 : Hid (Below wz.heap.size wz (wz.drew.alloc (.cells #[.int .i64 et, .int .i64 ek, .string ed] 78))) := hide ((unhide HBZ).alloc (Nat.le_refl _) _)
  have HB05 : Hid (Below wz.heap.size wz ((wz.drew.alloc (.cells #[] 78)).alloc (.cells #[.int .i64 et, .int .i64 ek, .string ed] 78))) := hide ((unhide HB0).alloc (unhide HB0).size _)
  have HB50 : Hid (Below wz.heap.size wz ((wz.drew.alloc (.cells #[.int .i64 et, .int .i64 ek, .string ed] 78)).alloc (.cells #[] 78))) := hide ((unhide HB5).alloc (unhide HB5).size _)
  have hBz : B ≤ wz.heap.size := Nat.le_trans hB (unhide HK5).size
  have HO0 : Hid ((wz.drew.alloc (.cells #[] 78)).ownsRow B 78 3 (.slice (some ⟨wz.heap.size, 0, none⟩) 0 0) 0 []) := hide (own_emptyE wz.drew B wz.heap.size rfl hBz)
  have HO05 : Hid (((wz.drew.alloc (.cells #[] 78)).alloc (.cells #[.int .i64 et, .int .i64 ek, .string ed] 78)).ownsRow B 78 3 (.slice (some ⟨wz.heap.size, 0, none⟩) 0 0) 0 []) := hide ((unhide HO0).alloc _)
  have HO50 : Hid (((wz.drew.alloc (.cells #[.int .i64 et, .int .i64 ek, .string ed] 78)).alloc (.cells #[] 78)).ownsRow B 78 3 (.slice (some ⟨wz.heap.size + 1, 0, none⟩) 0 0) 0 []) := hide (own_emptyE (wz.drew.alloc (.cells #[.int .i64 et, .int .i64 ek, .string ed] 78)) B (wz.heap.size + 1) (by rw [World.size_alloc]; rfl) (Nat.le_trans hBz (unhide HB5).size))
  have HRW5 : Hid (Rw (wz.drew.alloc (.cells #[.int .i64 et, .int .i64 ek, .string ed] 78)) (.slice (some ⟨wz.heap.size, 0, none⟩) 1 1) 1 (enC ⟨et, ek, ed⟩)) := hide (en_rw1 wz.drew ⟨et, ek, ed⟩ 78)
  have HRW05 : Hid (Rw ((wz.drew.alloc (.cells #[] 78)).alloc (.cells #[.int .i64 et, .int .i64 ek, .string ed] 78)) (.slice (some ⟨wz.heap.size + 1, 0, none⟩) 1 1) 1 (enC ⟨et, ek, ed⟩)) := hide (by have q := en_rw1 (wz.drew.alloc (.cells #[] 78)) ⟨et, ek, ed⟩ 78; rw [World.size_alloc] at q; exact q)
  have HSZ05 : Hid (((wz.drew.alloc (.cells #[] 78)).alloc (.cells #[.int .i64 et, .int .i64 ek, .string ed] 78)).heap.size = wz.heap.size + 2) := hide (by rw [World.size_alloc, World.size_alloc]; rfl)
  have HSZ50 : Hid (((wz.drew.alloc (.cells #[.int .i64 et, .int .i64 ek, .string ed] 78)).alloc (.cells #[] 78)).heap.size = wz.heap.size + 2) := hide (by rw [World.size_alloc, World.size_alloc]; rfl)
  have HSZ0 : Hid ((wz.drew.alloc (.cells #[] 78)).heap.size = wz.heap.size + 1) := hide (by rw [World.size_alloc]; rfl)
  have HRW50 : Hid (Rw ((wz.drew.alloc (.cells #[.int .i64 et, .int .i64 ek, .string ed] 78)).alloc (.cells #[] 78)) (.slice (some ⟨wz.heap.size, 0, none⟩) 1 1) 1 (enC ⟨et, ek, ed⟩)) := hide (Rw.kept1 (T := fun _ => False) (unhide HRW5) ((Touch.refl _ _).alloc _) (by rw [World.size_alloc]; exact Nat.lt_succ_self _) (fun h => h))
  have HSRC := hide (fun u (hu : Below wz.heap.size wz u) => ens_Rw ((unhide HO5).below hu))
  have HFIN := hide (fun w9 a9 c9 hb ho hk => foldE_fin (B := B) (l := l) (f := ⟨et, ek, ed⟩) (w9 := w9) (a9 := a9) (c9 := c9) (unhide HX5) (unhide HR5) (unhide HK5) hz6 hb ho hk)
  have HYE := hide (fun u (hu : Below wz.heap.size wz u) => (unhide HY5).below hu)
  have hlc : (ensC l).length = l.length * 3 := ensC_len l
  have hone : ∀ u ∈ ensC l, u.oneCell' = true := fun u hu => by
    obtain ⟨e, _, he⟩ := List.mem_flatMap.1 hu
    simp only [enC, List.mem_cons, List.mem_nil_iff, or_false] at he
    rcases he with rfl | rfl | rfl <;> rfl
  have hone2 : ∀ u ∈ enC ⟨et, ek, ed⟩, u.oneCell' = true := by simp [enC, Value.oneCell']
  obtain ⟨i0, hi, hz0, hz1, hz2⟩ := info_parts infoEn
  have gz : wz.cell? ⟨w.heap.size, 2, none⟩ = some (.slice a l.length c) := ((unhide HX5).below (Below.refl _ wz)).cell 2 rfl
  have kz0 : wz.cell? ⟨yb, 0, none⟩ = some (.int .i64 et) := (unhide HYE _ (Below.refl _ wz)).cell 0 rfl
  have kz1 : wz.cell? ⟨yb, 1, none⟩ = some (.int .i64 ek) := (unhide HYE _ (Below.refl _ wz)).cell 1 rfl
  have kz2 : wz.cell? ⟨yb, 2, none⟩ = some (.string ed) := (unhide HYE _ (Below.refl _ wz)).cell 2 rfl
  have g0 : (wz.alloc (.cells #[] 78)).cell? ⟨w.heap.size, 2, none⟩ = some (.slice a l.length c) := ((unhide HX5).below ((Below.refl _ wz).alloc (Nat.le_refl _) _)).cell 2 rfl
  have k00 : (wz.alloc (.cells #[] 78)).cell? ⟨yb, 0, none⟩ = some (.int .i64 et) := (unhide HYE _ ((Below.refl _ wz).alloc (Nat.le_refl _) _)).cell 0 rfl
  have k01 : (wz.alloc (.cells #[] 78)).cell? ⟨yb, 1, none⟩ = some (.int .i64 ek) := (unhide HYE _ ((Below.refl _ wz).alloc (Nat.le_refl _) _)).cell 1 rfl
  have k02 : (wz.alloc (.cells #[] 78)).cell? ⟨yb, 2, none⟩ = some (.string ed) := (unhide HYE _ ((Below.refl _ wz).alloc (Nat.le_refl _) _)).cell 2 rfl
  have g5 : (wz.alloc (.cells #[.int .i64 et, .int .i64 ek, .string ed] 78)).cell? ⟨w.heap.size, 2, none⟩ = some (.slice a l.length c) := ((unhide HX5).below ((Below.refl _ wz).alloc (Nat.le_refl _) _)).cell 2 rfl
  have g05 : ((wz.alloc (.cells #[] 78)).alloc (.cells #[.int .i64 et, .int .i64 ek, .string ed] 78)).cell? ⟨w.heap.size, 2, none⟩ = some (.slice a l.length c) := ((unhide HX5).below (((Below.refl _ wz).alloc (Nat.le_refl _) _).alloc (by simp) _)).cell 2 rfl
  have g50 : ((wz.alloc (.cells #[.int .i64 et, .int .i64 ek, .string ed] 78)).alloc (.cells #[] 78)).cell? ⟨w.heap.size, 2, none⟩ = some (.slice a l.length c) := ((unhide HX5).below (((Below.refl _ wz).alloc (Nat.le_refl _) _).alloc (by simp) _)).cell 2 rfl
  go_cut [] (fun wx => FoldE B w tm vo (l ++ [⟨et, ek, ed⟩]) wx)
  case first =>
    go_wp2_with fail
    refine wp_region_any (by kernel_rfl) ?_
    change wpAny _ _ _ _ _ _ _ (World.drew _)
    refine wpAny_take (i := 1) (v := .pointer (some ⟨w.heap.size, 2, none⟩)) rfl (by kernel_rfl) (by kernel_rfl) (by kernel_rfl) (fun _ _ _ h => h) (Or.inl ⟨by rfl, ?_⟩) ?_
    · intro w
      go_simp
    refine wpAny_ready (rs := [0, 2, 4]) (by kernel_rfl) (by simp) ?_
    refine AllReady.cons rfl (fun K hK => ?_) ?_
    · go_simp
      refine hK _ _ ?_
      clear hK K
      refine wpAny_ready (rs := [2, 4]) (by kernel_rfl) (by simp) ?_
      refine AllReady.cons rfl (fun K hK => ?_) ?_
      · go_simp
        refine hK _ _ ?_
        clear hK K
        refine wpAny_ready (rs := [3, 4]) (by kernel_rfl) (by simp) ?_
        refine AllReady.cons rfl (fun K hK => ?_) ?_
        · refine step_append_row rfl _ _ _ rfl B 78 i0 _ 3 32 Try.underlying24 hi hz0 hz1 hz2 rfl (by omega) (.slice (some ⟨wz.heap.size, 0, none⟩) 0 0) 0 [] rfl (unhide HO0) (.slice a l.length c) l.length (ensC l) rfl (unhide HSRC _ (unhide HB0)) hlc hone (by unfold maxLen; omega) (by omega) (Nat.le_trans hBz (unhide HB0).size) ?_
          intro a7 c7 w7
          rw [Nat.zero_add, List.nil_append]
          intro hown7 hgrow7 hat7
          have HW7 := hide hown7
          have HB7 : Hid (Below wz.heap.size wz w7) := hide (grown_below (unhide HB0) hgrow7 (show wz.heap.size ≤ wz.heap.size by omega) (unhide HB0).size)
          have HK7 : Hid (∀ k, (Value.slice a7 l.length c7).ownBlock = some k → wz.heap.size ≤ k) := hide (fun k hk => by
            have hs := (unhide HB0).size
            rcases hat7 with h | h
            · have e := h.symm.trans hk
              cases e
              show wz.heap.size ≤ wz.heap.size
              omega
            · have e := h.symm.trans hk
              cases e
              exact hs)
          have k70 := (unhide HYE _ (unhide HB7)).cell 0 rfl
          have k71 := (unhide HYE _ (unhide HB7)).cell 1 rfl
          have k72 := (unhide HYE _ (unhide HB7)).cell 2 rfl
          clear hown7 hgrow7 hat7
          refine hK _ _ ?_
          clear hK K
          refine wpAny_ready (rs := [4]) (by kernel_rfl) (by simp) ?_
          refine AllReady.cons rfl (fun K hK => ?_) AllReady.nil
          go_simp
          refine hK _ _ ?_
          clear hK K
          refine wpAny_ready (rs := [5]) (by kernel_rfl) (by simp) ?_
          refine AllReady.cons rfl (fun K hK => ?_) AllReady.nil
          go_simp
          refine hK _ _ ?_
          clear hK K
          refine wpAny_ready (rs := [6]) (by kernel_rfl) (by simp) ?_
          refine AllReady.cons rfl (fun K hK => ?_) AllReady.nil
          refine step_append_row rfl _ _ _ rfl B 78 i0 _ 3 32 Try.underlying24 hi hz0 hz1 hz2 rfl (by omega) (.slice a7 l.length c7) l.length (ensC l) rfl ((unhide HW7).alloc _) (.slice (some ⟨w7.heap.size, 0, none⟩) 1 1) 1 (enC ⟨et, ek, ed⟩) rfl (en_rw1 w7 ⟨et, ek, ed⟩ 78) rfl hone2 (by unfold maxLen; omega) (by omega) (Nat.le_trans hBz (Nat.le_trans (unhide HB7).size (by rw [World.size_alloc]; exact Nat.le_succ _))) ?_
          intro a9 c9 w9 hown9 hgrow9 hat9
          have hb8 := ((unhide HB7).alloc (unhide HB7).size (.cells #[.int .i64 et, .int .i64 ek, .string ed] 78))
          have hb9 : Below wz.heap.size wz w9 := hb8.grown hgrow9 hb8.size (fun r hr => unhide HK7 r hr)
          obtain ⟨⟨hc9, hf9⟩, hF9⟩ := unhide HFIN w9 a9 c9 hb9 hown9 (fun k hk => by
            have hs := hb8.size
            rcases hat9 with h | h
            · exact unhide HK7 k (h.symm.trans hk)
            · have e := h.symm.trans hk
              cases e
              exact hs)
          have HF9 := hide hF9
          clear hown9 hgrow9 hat9 hb8 hb9 hF9
          refine hK _ _ ?_
          clear hK K
          refine wpAny_take (i := 7) (v := .pointer (some ⟨w.heap.size, 2, none⟩)) rfl (by kernel_rfl) (by kernel_rfl) (by kernel_rfl) (fun _ _ _ h => h) (Or.inl ⟨by rfl, ?_⟩) ?_
          · intro w
            go_simp
          refine wpAny_ready (rs := [8]) (by kernel_rfl) (by simp) ?_
          refine AllReady.cons rfl (fun K hK => ?_) AllReady.nil
          go_simp
          refine hK _ _ ?_
          clear hK K
          refine wpAny_done (by kernel_rfl) ?_ _
          go_wp2_with fail
          go_meet
          exact unhide HF9
        refine AllReady.cons rfl (fun K hK => ?_) AllReady.nil
        go_simp
        refine hK _ _ ?_
        clear hK K
        refine wpAny_ready (rs := [3, 5]) (by kernel_rfl) (by simp) ?_
        refine AllReady.cons rfl (fun K hK => ?_) ?_
        · refine step_append_row rfl _ _ _ rfl B 78 i0 _ 3 32 Try.underlying24 hi hz0 hz1 hz2 rfl (by omega) (.slice (some ⟨wz.heap.size, 0, none⟩) 0 0) 0 [] rfl (unhide HO0) (.slice a l.length c) l.length (ensC l) rfl (unhide HSRC _ (unhide HB0)) hlc hone (by unfold maxLen; omega) (by omega) (Nat.le_trans hBz (unhide HB0).size) ?_
          intro a7 c7 w7
          rw [Nat.zero_add, List.nil_append]
          intro hown7 hgrow7 hat7
          have HW7 := hide hown7
          have HB7 : Hid (Below wz.heap.size wz w7) := hide (grown_below (unhide HB0) hgrow7 (show wz.heap.size ≤ wz.heap.size by omega) (unhide HB0).size)
          have HK7 : Hid (∀ k, (Value.slice a7 l.length c7).ownBlock = some k → wz.heap.size ≤ k) := hide (fun k hk => by
            have hs := (unhide HB0).size
            rcases hat7 with h | h
            · have e := h.symm.trans hk
              cases e
              show wz.heap.size ≤ wz.heap.size
              omega
            · have e := h.symm.trans hk
              cases e
              exact hs)
          clear hown7 hgrow7 hat7
          refine hK _ _ ?_
          clear hK K
          refine wpAny_ready (rs := [5]) (by kernel_rfl) (by simp) ?_
          refine AllReady.cons rfl (fun K hK => ?_) AllReady.nil
          go_simp
          refine hK _ _ ?_
          clear hK K
          refine wpAny_ready (rs := [6]) (by kernel_rfl) (by simp) ?_
          refine AllReady.cons rfl (fun K hK => ?_) AllReady.nil
          refine step_append_row rfl _ _ _ rfl B 78 i0 _ 3 32 Try.underlying24 hi hz0 hz1 hz2 rfl (by omega) (.slice a7 l.length c7) l.length (ensC l) rfl ((unhide HW7).alloc _) (.slice (some ⟨w7.heap.size, 0, none⟩) 1 1) 1 (enC ⟨et, ek, ed⟩) rfl (en_rw1 w7 ⟨et, ek, ed⟩ 78) rfl hone2 (by unfold maxLen; omega) (by omega) (Nat.le_trans hBz (Nat.le_trans (unhide HB7).size (by rw [World.size_alloc]; exact Nat.le_succ _))) ?_
          intro a9 c9 w9 hown9 hgrow9 hat9
          have hb8 := ((unhide HB7).alloc (unhide HB7).size (.cells #[.int .i64 et, .int .i64 ek, .string ed] 78))
          have hb9 : Below wz.heap.size wz w9 := hb8.grown hgrow9 hb8.size (fun r hr => unhide HK7 r hr)
          obtain ⟨⟨hc9, hf9⟩, hF9⟩ := unhide HFIN w9 a9 c9 hb9 hown9 (fun k hk => by
            have hs := hb8.size
            rcases hat9 with h | h
            · exact unhide HK7 k (h.symm.trans hk)
            · have e := h.symm.trans hk
              cases e
              exact hs)
          have HF9 := hide hF9
          clear hown9 hgrow9 hat9 hb8 hb9 hF9
          refine hK _ _ ?_
          clear hK K
          refine wpAny_take (i := 7) (v := .pointer (some ⟨w.heap.size, 2, none⟩)) rfl (by kernel_rfl) (by kernel_rfl) (by kernel_rfl) (fun _ _ _ h => h) (Or.inl ⟨by rfl, ?_⟩) ?_
          · intro w
            go_simp
          refine wpAny_ready (rs := [8]) (by kernel_rfl) (by simp) ?_
          refine AllReady.cons rfl (fun K hK => ?_) AllReady.nil
          go_simp
          refine hK _ _ ?_
          clear hK K
          refine wpAny_done (by kernel_rfl) ?_ _
          go_wp2_with fail
          go_meet
          exact unhide HF9
        refine AllReady.cons rfl (fun K hK => ?_) AllReady.nil
        go_simp
        refine hK _ _ ?_
        clear hK K
        refine wpAny_ready (rs := [3]) (by kernel_rfl) (by simp) ?_
        refine AllReady.cons rfl (fun K hK => ?_) AllReady.nil
        refine step_append_row rfl _ _ _ rfl B 78 i0 _ 3 32 Try.underlying24 hi hz0 hz1 hz2 rfl (by omega) (.slice (some ⟨wz.heap.size, 0, none⟩) 0 0) 0 [] rfl (unhide HO05) (.slice a l.length c) l.length (ensC l) rfl (unhide HSRC _ (unhide HB05)) hlc hone (by unfold maxLen; omega) (by omega) (Nat.le_trans hBz (unhide HB05).size) ?_
        intro a7 c7 w7
        rw [Nat.zero_add, List.nil_append]
        intro hown7 hgrow7 hat7
        have HW7 := hide hown7
        have HB7 : Hid (Below wz.heap.size wz w7) := hide (grown_below (unhide HB05) hgrow7 (show wz.heap.size ≤ wz.heap.size by omega) (unhide HB05).size)
        have HK7 : Hid (∀ k, (Value.slice a7 l.length c7).ownBlock = some k → wz.heap.size ≤ k) := hide (fun k hk => by
          have hs := (unhide HB05).size
          rcases hat7 with h | h
          · have e := h.symm.trans hk
            cases e
            show wz.heap.size ≤ wz.heap.size
            omega
          · have e := h.symm.trans hk
            cases e
            exact hs)
        have HRW7 : Hid (Rw w7 (.slice (some ⟨wz.heap.size + 1, 0, none⟩) 1 1) 1 (enC ⟨et, ek, ed⟩)) := hide (Rw.kept1 (unhide HRW05) ((Touch.refl (fun q => q = wz.heap.size) _).grown hgrow7 (fun q hq _ => by cases hq; rfl)) (by rw [unhide HSZ05]; omega) (fun e => by have e1 : wz.heap.size + 1 = wz.heap.size := e; omega))
        clear hown7 hgrow7 hat7
        refine hK _ _ ?_
        clear hK K
        refine wpAny_ready (rs := [6]) (by kernel_rfl) (by simp) ?_
        refine AllReady.cons rfl (fun K hK => ?_) AllReady.nil
        refine step_append_row rfl _ _ _ rfl B 78 i0 _ 3 32 Try.underlying24 hi hz0 hz1 hz2 rfl (by omega) (.slice a7 l.length c7) l.length (ensC l) rfl (unhide HW7) (.slice (some ⟨wz.heap.size + 1, 0, none⟩) 1 1) 1 (enC ⟨et, ek, ed⟩) rfl (unhide HRW7) rfl hone2 (by unfold maxLen; omega) (by omega) (Nat.le_trans hBz (unhide HB7).size) ?_
        intro a9 c9 w9 hown9 hgrow9 hat9
        have hb8 := (unhide HB7)
        have hb9 : Below wz.heap.size wz w9 := hb8.grown hgrow9 hb8.size (fun r hr => unhide HK7 r hr)
        obtain ⟨⟨hc9, hf9⟩, hF9⟩ := unhide HFIN w9 a9 c9 hb9 hown9 (fun k hk => by
          have hs := hb8.size
          rcases hat9 with h | h
          · exact unhide HK7 k (h.symm.trans hk)
          · have e := h.symm.trans hk
            cases e
            exact hs)
        have HF9 := hide hF9
        clear hown9 hgrow9 hat9 hb8 hb9 hF9
        refine hK _ _ ?_
        clear hK K
        refine wpAny_take (i := 7) (v := .pointer (some ⟨w.heap.size, 2, none⟩)) rfl (by kernel_rfl) (by kernel_rfl) (by kernel_rfl) (fun _ _ _ h => h) (Or.inl ⟨by rfl, ?_⟩) ?_
        · intro w
          go_simp
        refine wpAny_ready (rs := [8]) (by kernel_rfl) (by simp) ?_
        refine AllReady.cons rfl (fun K hK => ?_) AllReady.nil
        go_simp
        refine hK _ _ ?_
        clear hK K
        refine wpAny_done (by kernel_rfl) ?_ _
        go_wp2_with fail
        go_meet
        exact unhide HF9
      refine AllReady.cons rfl (fun K hK => ?_) AllReady.nil
      go_simp
      refine hK _ _ ?_
      clear hK K
      refine wpAny_ready (rs := [2, 5]) (by kernel_rfl) (by simp) ?_
      refine AllReady.cons rfl (fun K hK => ?_) ?_
      · go_simp
        refine hK _ _ ?_
        clear hK K
        refine wpAny_ready (rs := [3, 5]) (by kernel_rfl) (by simp) ?_
        refine AllReady.cons rfl (fun K hK => ?_) ?_
        · refine step_append_row rfl _ _ _ rfl B 78 i0 _ 3 32 Try.underlying24 hi hz0 hz1 hz2 rfl (by omega) (.slice (some ⟨wz.heap.size, 0, none⟩) 0 0) 0 [] rfl (unhide HO0) (.slice a l.length c) l.length (ensC l) rfl (unhide HSRC _ (unhide HB0)) hlc hone (by unfold maxLen; omega) (by omega) (Nat.le_trans hBz (unhide HB0).size) ?_
          intro a7 c7 w7
          rw [Nat.zero_add, List.nil_append]
          intro hown7 hgrow7 hat7
          have HW7 := hide hown7
          have HB7 : Hid (Below wz.heap.size wz w7) := hide (grown_below (unhide HB0) hgrow7 (show wz.heap.size ≤ wz.heap.size by omega) (unhide HB0).size)
          have HK7 : Hid (∀ k, (Value.slice a7 l.length c7).ownBlock = some k → wz.heap.size ≤ k) := hide (fun k hk => by
            have hs := (unhide HB0).size
            rcases hat7 with h | h
            · have e := h.symm.trans hk
              cases e
              show wz.heap.size ≤ wz.heap.size
              omega
            · have e := h.symm.trans hk
              cases e
              exact hs)
          clear hown7 hgrow7 hat7
          refine hK _ _ ?_
          clear hK K
          refine wpAny_ready (rs := [5]) (by kernel_rfl) (by simp) ?_
          refine AllReady.cons rfl (fun K hK => ?_) AllReady.nil
          go_simp
          refine hK _ _ ?_
          clear hK K
          refine wpAny_ready (rs := [6]) (by kernel_rfl) (by simp) ?_
          refine AllReady.cons rfl (fun K hK => ?_) AllReady.nil
          refine step_append_row rfl _ _ _ rfl B 78 i0 _ 3 32 Try.underlying24 hi hz0 hz1 hz2 rfl (by omega) (.slice a7 l.length c7) l.length (ensC l) rfl ((unhide HW7).alloc _) (.slice (some ⟨w7.heap.size, 0, none⟩) 1 1) 1 (enC ⟨et, ek, ed⟩) rfl (en_rw1 w7 ⟨et, ek, ed⟩ 78) rfl hone2 (by unfold maxLen; omega) (by omega) (Nat.le_trans hBz (Nat.le_trans (unhide HB7).size (by rw [World.size_alloc]; exact Nat.le_succ _))) ?_
          intro a9 c9 w9 hown9 hgrow9 hat9
          have hb8 := ((unhide HB7).alloc (unhide HB7).size (.cells #[.int .i64 et, .int .i64 ek, .string ed] 78))
          have hb9 : Below wz.heap.size wz w9 := hb8.grown hgrow9 hb8.size (fun r hr => unhide HK7 r hr)
          obtain ⟨⟨hc9, hf9⟩, hF9⟩ := unhide HFIN w9 a9 c9 hb9 hown9 (fun k hk => by
            have hs := hb8.size
            rcases hat9 with h | h
            · exact unhide HK7 k (h.symm.trans hk)
            · have e := h.symm.trans hk
              cases e
              exact hs)
          have HF9 := hide hF9
          clear hown9 hgrow9 hat9 hb8 hb9 hF9
          refine hK _ _ ?_
          clear hK K
          refine wpAny_take (i := 7) (v := .pointer (some ⟨w.heap.size, 2, none⟩)) rfl (by kernel_rfl) (by kernel_rfl) (by kernel_rfl) (fun _ _ _ h => h) (Or.inl ⟨by rfl, ?_⟩) ?_
          · intro w
            go_simp
          refine wpAny_ready (rs := [8]) (by kernel_rfl) (by simp) ?_
          refine AllReady.cons rfl (fun K hK => ?_) AllReady.nil
          go_simp
          refine hK _ _ ?_
          clear hK K
          refine wpAny_done (by kernel_rfl) ?_ _
          go_wp2_with fail
          go_meet
          exact unhide HF9
        refine AllReady.cons rfl (fun K hK => ?_) AllReady.nil
        go_simp
        refine hK _ _ ?_
        clear hK K
        refine wpAny_ready (rs := [3]) (by kernel_rfl) (by simp) ?_
        refine AllReady.cons rfl (fun K hK => ?_) AllReady.nil
        refine step_append_row rfl _ _ _ rfl B 78 i0 _ 3 32 Try.underlying24 hi hz0 hz1 hz2 rfl (by omega) (.slice (some ⟨wz.heap.size, 0, none⟩) 0 0) 0 [] rfl (unhide HO05) (.slice a l.length c) l.length (ensC l) rfl (unhide HSRC _ (unhide HB05)) hlc hone (by unfold maxLen; omega) (by omega) (Nat.le_trans hBz (unhide HB05).size) ?_
        intro a7 c7 w7
        rw [Nat.zero_add, List.nil_append]
        intro hown7 hgrow7 hat7
        have HW7 := hide hown7
        have HB7 : Hid (Below wz.heap.size wz w7) := hide (grown_below (unhide HB05) hgrow7 (show wz.heap.size ≤ wz.heap.size by omega) (unhide HB05).size)
        have HK7 : Hid (∀ k, (Value.slice a7 l.length c7).ownBlock = some k → wz.heap.size ≤ k) := hide (fun k hk => by
          have hs := (unhide HB05).size
          rcases hat7 with h | h
          · have e := h.symm.trans hk
            cases e
            show wz.heap.size ≤ wz.heap.size
            omega
          · have e := h.symm.trans hk
            cases e
            exact hs)
        have HRW7 : Hid (Rw w7 (.slice (some ⟨wz.heap.size + 1, 0, none⟩) 1 1) 1 (enC ⟨et, ek, ed⟩)) := hide (Rw.kept1 (unhide HRW05) ((Touch.refl (fun q => q = wz.heap.size) _).grown hgrow7 (fun q hq _ => by cases hq; rfl)) (by rw [unhide HSZ05]; omega) (fun e => by have e1 : wz.heap.size + 1 = wz.heap.size := e; omega))
        clear hown7 hgrow7 hat7
        refine hK _ _ ?_
        clear hK K
        refine wpAny_ready (rs := [6]) (by kernel_rfl) (by simp) ?_
        refine AllReady.cons rfl (fun K hK => ?_) AllReady.nil
        refine step_append_row rfl _ _ _ rfl B 78 i0 _ 3 32 Try.underlying24 hi hz0 hz1 hz2 rfl (by omega) (.slice a7 l.length c7) l.length (ensC l) rfl (unhide HW7) (.slice (some ⟨wz.heap.size + 1, 0, none⟩) 1 1) 1 (enC ⟨et, ek, ed⟩) rfl (unhide HRW7) rfl hone2 (by unfold maxLen; omega) (by omega) (Nat.le_trans hBz (unhide HB7).size) ?_
        intro a9 c9 w9 hown9 hgrow9 hat9
        have hb8 := (unhide HB7)
        have hb9 : Below wz.heap.size wz w9 := hb8.grown hgrow9 hb8.size (fun r hr => unhide HK7 r hr)
        obtain ⟨⟨hc9, hf9⟩, hF9⟩ := unhide HFIN w9 a9 c9 hb9 hown9 (fun k hk => by
          have hs := hb8.size
          rcases hat9 with h | h
          · exact unhide HK7 k (h.symm.trans hk)
          · have e := h.symm.trans hk
            cases e
            exact hs)
        have HF9 := hide hF9
        clear hown9 hgrow9 hat9 hb8 hb9 hF9
        refine hK _ _ ?_
        clear hK K
        refine wpAny_take (i := 7) (v := .pointer (some ⟨w.heap.size, 2, none⟩)) rfl (by kernel_rfl) (by kernel_rfl) (by kernel_rfl) (fun _ _ _ h => h) (Or.inl ⟨by rfl, ?_⟩) ?_
        · intro w
          go_simp
        refine wpAny_ready (rs := [8]) (by kernel_rfl) (by simp) ?_
        refine AllReady.cons rfl (fun K hK => ?_) AllReady.nil
        go_simp
        refine hK _ _ ?_
        clear hK K
        refine wpAny_done (by kernel_rfl) ?_ _
        go_wp2_with fail
        go_meet
        exact unhide HF9
      refine AllReady.cons rfl (fun K hK => ?_) AllReady.nil
      go_simp
      refine hK _ _ ?_
      clear hK K
      refine wpAny_ready (rs := [2]) (by kernel_rfl) (by simp) ?_
      refine AllReady.cons rfl (fun K hK => ?_) AllReady.nil
      go_simp
      refine hK _ _ ?_
      clear hK K
      refine wpAny_ready (rs := [3]) (by kernel_rfl) (by simp) ?_
      refine AllReady.cons rfl (fun K hK => ?_) AllReady.nil
      refine step_append_row rfl _ _ _ rfl B 78 i0 _ 3 32 Try.underlying24 hi hz0 hz1 hz2 rfl (by omega) (.slice (some ⟨wz.heap.size, 0, none⟩) 0 0) 0 [] rfl (unhide HO05) (.slice a l.length c) l.length (ensC l) rfl (unhide HSRC _ (unhide HB05)) hlc hone (by unfold maxLen; omega) (by omega) (Nat.le_trans hBz (unhide HB05).size) ?_
      intro a7 c7 w7
      rw [Nat.zero_add, List.nil_append]
      intro hown7 hgrow7 hat7
      have HW7 := hide hown7
      have HB7 : Hid (Below wz.heap.size wz w7) := hide (grown_below (unhide HB05) hgrow7 (show wz.heap.size ≤ wz.heap.size by omega) (unhide HB05).size)
      have HK7 : Hid (∀ k, (Value.slice a7 l.length c7).ownBlock = some k → wz.heap.size ≤ k) := hide (fun k hk => by
        have hs := (unhide HB05).size
        rcases hat7 with h | h
        · have e := h.symm.trans hk
          cases e
          show wz.heap.size ≤ wz.heap.size
          omega
        · have e := h.symm.trans hk
          cases e
          exact hs)
      have HRW7 : Hid (Rw w7 (.slice (some ⟨wz.heap.size + 1, 0, none⟩) 1 1) 1 (enC ⟨et, ek, ed⟩)) := hide (Rw.kept1 (unhide HRW05) ((Touch.refl (fun q => q = wz.heap.size) _).grown hgrow7 (fun q hq _ => by cases hq; rfl)) (by rw [unhide HSZ05]; omega) (fun e => by have e1 : wz.heap.size + 1 = wz.heap.size := e; omega))
      clear hown7 hgrow7 hat7
      refine hK _ _ ?_
      clear hK K
      refine wpAny_ready (rs := [6]) (by kernel_rfl) (by simp) ?_
      refine AllReady.cons rfl (fun K hK => ?_) AllReady.nil
      refine step_append_row rfl _ _ _ rfl B 78 i0 _ 3 32 Try.underlying24 hi hz0 hz1 hz2 rfl (by omega) (.slice a7 l.length c7) l.length (ensC l) rfl (unhide HW7) (.slice (some ⟨wz.heap.size + 1, 0, none⟩) 1 1) 1 (enC ⟨et, ek, ed⟩) rfl (unhide HRW7) rfl hone2 (by unfold maxLen; omega) (by omega) (Nat.le_trans hBz (unhide HB7).size) ?_
      intro a9 c9 w9 hown9 hgrow9 hat9
      have hb8 := (unhide HB7)
      have hb9 : Below wz.heap.size wz w9 := hb8.grown hgrow9 hb8.size (fun r hr => unhide HK7 r hr)
      obtain ⟨⟨hc9, hf9⟩, hF9⟩ := unhide HFIN w9 a9 c9 hb9 hown9 (fun k hk => by
        have hs := hb8.size
        rcases hat9 with h | h
        · exact unhide HK7 k (h.symm.trans hk)
        · have e := h.symm.trans hk
          cases e
          exact hs)
      have HF9 := hide hF9
      clear hown9 hgrow9 hat9 hb8 hb9 hF9
      refine hK _ _ ?_
      clear hK K
      refine wpAny_take (i := 7) (v := .pointer (some ⟨w.heap.size, 2, none⟩)) rfl (by kernel_rfl) (by kernel_rfl) (by kernel_rfl) (fun _ _ _ h => h) (Or.inl ⟨by rfl, ?_⟩) ?_
      · intro w
        go_simp
      refine wpAny_ready (rs := [8]) (by kernel_rfl) (by simp) ?_
      refine AllReady.cons rfl (fun K hK => ?_) AllReady.nil
      go_simp
      refine hK _ _ ?_
      clear hK K
      refine wpAny_done (by kernel_rfl) ?_ _
      go_wp2_with fail
      go_meet
      exact unhide HF9
    refine AllReady.cons rfl (fun K hK => ?_) ?_
    · go_simp
      refine hK _ _ ?_
      clear hK K
      refine wpAny_ready (rs := [0, 4]) (by kernel_rfl) (by simp) ?_
      refine AllReady.cons rfl (fun K hK => ?_) ?_
      · go_simp
        refine hK _ _ ?_
        clear hK K
        refine wpAny_ready (rs := [3, 4]) (by kernel_rfl) (by simp) ?_
        refine AllReady.cons rfl (fun K hK => ?_) ?_
        · refine step_append_row rfl _ _ _ rfl B 78 i0 _ 3 32 Try.underlying24 hi hz0 hz1 hz2 rfl (by omega) (.slice (some ⟨wz.heap.size, 0, none⟩) 0 0) 0 [] rfl (unhide HO0) (.slice a l.length c) l.length (ensC l) rfl (unhide HSRC _ (unhide HB0)) hlc hone (by unfold maxLen; omega) (by omega) (Nat.le_trans hBz (unhide HB0).size) ?_
          intro a7 c7 w7
          rw [Nat.zero_add, List.nil_append]
          intro hown7 hgrow7 hat7
          have HW7 := hide hown7
          have HB7 : Hid (Below wz.heap.size wz w7) := hide (grown_below (unhide HB0) hgrow7 (show wz.heap.size ≤ wz.heap.size by omega) (unhide HB0).size)
          have HK7 : Hid (∀ k, (Value.slice a7 l.length c7).ownBlock = some k → wz.heap.size ≤ k) := hide (fun k hk => by
            have hs := (unhide HB0).size
            rcases hat7 with h | h
            · have e := h.symm.trans hk
              cases e
              show wz.heap.size ≤ wz.heap.size
              omega
            · have e := h.symm.trans hk
              cases e
              exact hs)
          have k70 := (unhide HYE _ (unhide HB7)).cell 0 rfl
          have k71 := (unhide HYE _ (unhide HB7)).cell 1 rfl
          have k72 := (unhide HYE _ (unhide HB7)).cell 2 rfl
          clear hown7 hgrow7 hat7
          refine hK _ _ ?_
          clear hK K
          refine wpAny_ready (rs := [4]) (by kernel_rfl) (by simp) ?_
          refine AllReady.cons rfl (fun K hK => ?_) AllReady.nil
          go_simp
          refine hK _ _ ?_
          clear hK K
          refine wpAny_ready (rs := [5]) (by kernel_rfl) (by simp) ?_
          refine AllReady.cons rfl (fun K hK => ?_) AllReady.nil
          go_simp
          refine hK _ _ ?_
          clear hK K
          refine wpAny_ready (rs := [6]) (by kernel_rfl) (by simp) ?_
          refine AllReady.cons rfl (fun K hK => ?_) AllReady.nil
          refine step_append_row rfl _ _ _ rfl B 78 i0 _ 3 32 Try.underlying24 hi hz0 hz1 hz2 rfl (by omega) (.slice a7 l.length c7) l.length (ensC l) rfl ((unhide HW7).alloc _) (.slice (some ⟨w7.heap.size, 0, none⟩) 1 1) 1 (enC ⟨et, ek, ed⟩) rfl (en_rw1 w7 ⟨et, ek, ed⟩ 78) rfl hone2 (by unfold maxLen; omega) (by omega) (Nat.le_trans hBz (Nat.le_trans (unhide HB7).size (by rw [World.size_alloc]; exact Nat.le_succ _))) ?_
          intro a9 c9 w9 hown9 hgrow9 hat9
          have hb8 := ((unhide HB7).alloc (unhide HB7).size (.cells #[.int .i64 et, .int .i64 ek, .string ed] 78))
          have hb9 : Below wz.heap.size wz w9 := hb8.grown hgrow9 hb8.size (fun r hr => unhide HK7 r hr)
          obtain ⟨⟨hc9, hf9⟩, hF9⟩ := unhide HFIN w9 a9 c9 hb9 hown9 (fun k hk => by
            have hs := hb8.size
            rcases hat9 with h | h
            · exact unhide HK7 k (h.symm.trans hk)
            · have e := h.symm.trans hk
              cases e
              exact hs)
          have HF9 := hide hF9
          clear hown9 hgrow9 hat9 hb8 hb9 hF9
          refine hK _ _ ?_
          clear hK K
          refine wpAny_take (i := 7) (v := .pointer (some ⟨w.heap.size, 2, none⟩)) rfl (by kernel_rfl) (by kernel_rfl) (by kernel_rfl) (fun _ _ _ h => h) (Or.inl ⟨by rfl, ?_⟩) ?_
          · intro w
            go_simp
          refine wpAny_ready (rs := [8]) (by kernel_rfl) (by simp) ?_
          refine AllReady.cons rfl (fun K hK => ?_) AllReady.nil
          go_simp
          refine hK _ _ ?_
          clear hK K
          refine wpAny_done (by kernel_rfl) ?_ _
          go_wp2_with fail
          go_meet
          exact unhide HF9
        refine AllReady.cons rfl (fun K hK => ?_) AllReady.nil
        go_simp
        refine hK _ _ ?_
        clear hK K
        refine wpAny_ready (rs := [3, 5]) (by kernel_rfl) (by simp) ?_
        refine AllReady.cons rfl (fun K hK => ?_) ?_
        · refine step_append_row rfl _ _ _ rfl B 78 i0 _ 3 32 Try.underlying24 hi hz0 hz1 hz2 rfl (by omega) (.slice (some ⟨wz.heap.size, 0, none⟩) 0 0) 0 [] rfl (unhide HO0) (.slice a l.length c) l.length (ensC l) rfl (unhide HSRC _ (unhide HB0)) hlc hone (by unfold maxLen; omega) (by omega) (Nat.le_trans hBz (unhide HB0).size) ?_
          intro a7 c7 w7
          rw [Nat.zero_add, List.nil_append]
          intro hown7 hgrow7 hat7
          have HW7 := hide hown7
          have HB7 : Hid (Below wz.heap.size wz w7) := hide (grown_below (unhide HB0) hgrow7 (show wz.heap.size ≤ wz.heap.size by omega) (unhide HB0).size)
          have HK7 : Hid (∀ k, (Value.slice a7 l.length c7).ownBlock = some k → wz.heap.size ≤ k) := hide (fun k hk => by
            have hs := (unhide HB0).size
            rcases hat7 with h | h
            · have e := h.symm.trans hk
              cases e
              show wz.heap.size ≤ wz.heap.size
              omega
            · have e := h.symm.trans hk
              cases e
              exact hs)
          clear hown7 hgrow7 hat7
          refine hK _ _ ?_
          clear hK K
          refine wpAny_ready (rs := [5]) (by kernel_rfl) (by simp) ?_
          refine AllReady.cons rfl (fun K hK => ?_) AllReady.nil
          go_simp
          refine hK _ _ ?_
          clear hK K
          refine wpAny_ready (rs := [6]) (by kernel_rfl) (by simp) ?_
          refine AllReady.cons rfl (fun K hK => ?_) AllReady.nil
          refine step_append_row rfl _ _ _ rfl B 78 i0 _ 3 32 Try.underlying24 hi hz0 hz1 hz2 rfl (by omega) (.slice a7 l.length c7) l.length (ensC l) rfl ((unhide HW7).alloc _) (.slice (some ⟨w7.heap.size, 0, none⟩) 1 1) 1 (enC ⟨et, ek, ed⟩) rfl (en_rw1 w7 ⟨et, ek, ed⟩ 78) rfl hone2 (by unfold maxLen; omega) (by omega) (Nat.le_trans hBz (Nat.le_trans (unhide HB7).size (by rw [World.size_alloc]; exact Nat.le_succ _))) ?_
          intro a9 c9 w9 hown9 hgrow9 hat9
          have hb8 := ((unhide HB7).alloc (unhide HB7).size (.cells #[.int .i64 et, .int .i64 ek, .string ed] 78))
          have hb9 : Below wz.heap.size wz w9 := hb8.grown hgrow9 hb8.size (fun r hr => unhide HK7 r hr)
          obtain ⟨⟨hc9, hf9⟩, hF9⟩ := unhide HFIN w9 a9 c9 hb9 hown9 (fun k hk => by
            have hs := hb8.size
            rcases hat9 with h | h
            · exact unhide HK7 k (h.symm.trans hk)
            · have e := h.symm.trans hk
              cases e
              exact hs)
          have HF9 := hide hF9
          clear hown9 hgrow9 hat9 hb8 hb9 hF9
          refine hK _ _ ?_
          clear hK K
          refine wpAny_take (i := 7) (v := .pointer (some ⟨w.heap.size, 2, none⟩)) rfl (by kernel_rfl) (by kernel_rfl) (by kernel_rfl) (fun _ _ _ h => h) (Or.inl ⟨by rfl, ?_⟩) ?_
          · intro w
            go_simp
          refine wpAny_ready (rs := [8]) (by kernel_rfl) (by simp) ?_
          refine AllReady.cons rfl (fun K hK => ?_) AllReady.nil
          go_simp
          refine hK _ _ ?_
          clear hK K
          refine wpAny_done (by kernel_rfl) ?_ _
          go_wp2_with fail
          go_meet
          exact unhide HF9
        refine AllReady.cons rfl (fun K hK => ?_) AllReady.nil
        go_simp
        refine hK _ _ ?_
        clear hK K
        refine wpAny_ready (rs := [3]) (by kernel_rfl) (by simp) ?_
        refine AllReady.cons rfl (fun K hK => ?_) AllReady.nil
        refine step_append_row rfl _ _ _ rfl B 78 i0 _ 3 32 Try.underlying24 hi hz0 hz1 hz2 rfl (by omega) (.slice (some ⟨wz.heap.size, 0, none⟩) 0 0) 0 [] rfl (unhide HO05) (.slice a l.length c) l.length (ensC l) rfl (unhide HSRC _ (unhide HB05)) hlc hone (by unfold maxLen; omega) (by omega) (Nat.le_trans hBz (unhide HB05).size) ?_
        intro a7 c7 w7
        rw [Nat.zero_add, List.nil_append]
        intro hown7 hgrow7 hat7
        have HW7 := hide hown7
        have HB7 : Hid (Below wz.heap.size wz w7) := hide (grown_below (unhide HB05) hgrow7 (show wz.heap.size ≤ wz.heap.size by omega) (unhide HB05).size)
        have HK7 : Hid (∀ k, (Value.slice a7 l.length c7).ownBlock = some k → wz.heap.size ≤ k) := hide (fun k hk => by
          have hs := (unhide HB05).size
          rcases hat7 with h | h
          · have e := h.symm.trans hk
            cases e
            show wz.heap.size ≤ wz.heap.size
            omega
          · have e := h.symm.trans hk
            cases e
            exact hs)
        have HRW7 : Hid (Rw w7 (.slice (some ⟨wz.heap.size + 1, 0, none⟩) 1 1) 1 (enC ⟨et, ek, ed⟩)) := hide (Rw.kept1 (unhide HRW05) ((Touch.refl (fun q => q = wz.heap.size) _).grown hgrow7 (fun q hq _ => by cases hq; rfl)) (by rw [unhide HSZ05]; omega) (fun e => by have e1 : wz.heap.size + 1 = wz.heap.size := e; omega))
        clear hown7 hgrow7 hat7
        refine hK _ _ ?_
        clear hK K
        refine wpAny_ready (rs := [6]) (by kernel_rfl) (by simp) ?_
        refine AllReady.cons rfl (fun K hK => ?_) AllReady.nil
        refine step_append_row rfl _ _ _ rfl B 78 i0 _ 3 32 Try.underlying24 hi hz0 hz1 hz2 rfl (by omega) (.slice a7 l.length c7) l.length (ensC l) rfl (unhide HW7) (.slice (some ⟨wz.heap.size + 1, 0, none⟩) 1 1) 1 (enC ⟨et, ek, ed⟩) rfl (unhide HRW7) rfl hone2 (by unfold maxLen; omega) (by omega) (Nat.le_trans hBz (unhide HB7).size) ?_
        intro a9 c9 w9 hown9 hgrow9 hat9
        have hb8 := (unhide HB7)
        have hb9 : Below wz.heap.size wz w9 := hb8.grown hgrow9 hb8.size (fun r hr => unhide HK7 r hr)
        obtain ⟨⟨hc9, hf9⟩, hF9⟩ := unhide HFIN w9 a9 c9 hb9 hown9 (fun k hk => by
          have hs := hb8.size
          rcases hat9 with h | h
          · exact unhide HK7 k (h.symm.trans hk)
          · have e := h.symm.trans hk
            cases e
            exact hs)
        have HF9 := hide hF9
        clear hown9 hgrow9 hat9 hb8 hb9 hF9
        refine hK _ _ ?_
        clear hK K
        refine wpAny_take (i := 7) (v := .pointer (some ⟨w.heap.size, 2, none⟩)) rfl (by kernel_rfl) (by kernel_rfl) (by kernel_rfl) (fun _ _ _ h => h) (Or.inl ⟨by rfl, ?_⟩) ?_
        · intro w
          go_simp
        refine wpAny_ready (rs := [8]) (by kernel_rfl) (by simp) ?_
        refine AllReady.cons rfl (fun K hK => ?_) AllReady.nil
        go_simp
        refine hK _ _ ?_
        clear hK K
        refine wpAny_done (by kernel_rfl) ?_ _
        go_wp2_with fail
        go_meet
        exact unhide HF9
      refine AllReady.cons rfl (fun K hK => ?_) AllReady.nil
      go_simp
      refine hK _ _ ?_
      clear hK K
      refine wpAny_ready (rs := [0, 5]) (by kernel_rfl) (by simp) ?_
      refine AllReady.cons rfl (fun K hK => ?_) ?_
      · go_simp
        refine hK _ _ ?_
        clear hK K
        refine wpAny_ready (rs := [3, 5]) (by kernel_rfl) (by simp) ?_
        refine AllReady.cons rfl (fun K hK => ?_) ?_
        · refine step_append_row rfl _ _ _ rfl B 78 i0 _ 3 32 Try.underlying24 hi hz0 hz1 hz2 rfl (by omega) (.slice (some ⟨wz.heap.size, 0, none⟩) 0 0) 0 [] rfl (unhide HO0) (.slice a l.length c) l.length (ensC l) rfl (unhide HSRC _ (unhide HB0)) hlc hone (by unfold maxLen; omega) (by omega) (Nat.le_trans hBz (unhide HB0).size) ?_
          intro a7 c7 w7
          rw [Nat.zero_add, List.nil_append]
          intro hown7 hgrow7 hat7
          have HW7 := hide hown7
          have HB7 : Hid (Below wz.heap.size wz w7) := hide (grown_below (unhide HB0) hgrow7 (show wz.heap.size ≤ wz.heap.size by omega) (unhide HB0).size)
          have HK7 : Hid (∀ k, (Value.slice a7 l.length c7).ownBlock = some k → wz.heap.size ≤ k) := hide (fun k hk => by
            have hs := (unhide HB0).size
            rcases hat7 with h | h
            · have e := h.symm.trans hk
              cases e
              show wz.heap.size ≤ wz.heap.size
              omega
            · have e := h.symm.trans hk
              cases e
              exact hs)
          clear hown7 hgrow7 hat7
          refine hK _ _ ?_
          clear hK K
          refine wpAny_ready (rs := [5]) (by kernel_rfl) (by simp) ?_
          refine AllReady.cons rfl (fun K hK => ?_) AllReady.nil
          go_simp
          refine hK _ _ ?_
          clear hK K
          refine wpAny_ready (rs := [6]) (by kernel_rfl) (by simp) ?_
          refine AllReady.cons rfl (fun K hK => ?_) AllReady.nil
          refine step_append_row rfl _ _ _ rfl B 78 i0 _ 3 32 Try.underlying24 hi hz0 hz1 hz2 rfl (by omega) (.slice a7 l.length c7) l.length (ensC l) rfl ((unhide HW7).alloc _) (.slice (some ⟨w7.heap.size, 0, none⟩) 1 1) 1 (enC ⟨et, ek, ed⟩) rfl (en_rw1 w7 ⟨et, ek, ed⟩ 78) rfl hone2 (by unfold maxLen; omega) (by omega) (Nat.le_trans hBz (Nat.le_trans (unhide HB7).size (by rw [World.size_alloc]; exact Nat.le_succ _))) ?_
          intro a9 c9 w9 hown9 hgrow9 hat9
          have hb8 := ((unhide HB7).alloc (unhide HB7).size (.cells #[.int .i64 et, .int .i64 ek, .string ed] 78))
          have hb9 : Below wz.heap.size wz w9 := hb8.grown hgrow9 hb8.size (fun r hr => unhide HK7 r hr)
          obtain ⟨⟨hc9, hf9⟩, hF9⟩ := unhide HFIN w9 a9 c9 hb9 hown9 (fun k hk => by
            have hs := hb8.size
            rcases hat9 with h | h
            · exact unhide HK7 k (h.symm.trans hk)
            · have e := h.symm.trans hk
              cases e
              exact hs)
          have HF9 := hide hF9
          clear hown9 hgrow9 hat9 hb8 hb9 hF9
          refine hK _ _ ?_
          clear hK K
          refine wpAny_take (i := 7) (v := .pointer (some ⟨w.heap.size, 2, none⟩)) rfl (by kernel_rfl) (by kernel_rfl) (by kernel_rfl) (fun _ _ _ h => h) (Or.inl ⟨by rfl, ?_⟩) ?_
          · intro w
            go_simp
          refine wpAny_ready (rs := [8]) (by kernel_rfl) (by simp) ?_
          refine AllReady.cons rfl (fun K hK => ?_) AllReady.nil
          go_simp
          refine hK _ _ ?_
          clear hK K
          refine wpAny_done (by kernel_rfl) ?_ _
          go_wp2_with fail
          go_meet
          exact unhide HF9
        refine AllReady.cons rfl (fun K hK => ?_) AllReady.nil
        go_simp
        refine hK _ _ ?_
        clear hK K
        refine wpAny_ready (rs := [3]) (by kernel_rfl) (by simp) ?_
        refine AllReady.cons rfl (fun K hK => ?_) AllReady.nil
        refine step_append_row rfl _ _ _ rfl B 78 i0 _ 3 32 Try.underlying24 hi hz0 hz1 hz2 rfl (by omega) (.slice (some ⟨wz.heap.size, 0, none⟩) 0 0) 0 [] rfl (unhide HO05) (.slice a l.length c) l.length (ensC l) rfl (unhide HSRC _ (unhide HB05)) hlc hone (by unfold maxLen; omega) (by omega) (Nat.le_trans hBz (unhide HB05).size) ?_
        intro a7 c7 w7
        rw [Nat.zero_add, List.nil_append]
        intro hown7 hgrow7 hat7
        have HW7 := hide hown7
        have HB7 : Hid (Below wz.heap.size wz w7) := hide (grown_below (unhide HB05) hgrow7 (show wz.heap.size ≤ wz.heap.size by omega) (unhide HB05).size)
        have HK7 : Hid (∀ k, (Value.slice a7 l.length c7).ownBlock = some k → wz.heap.size ≤ k) := hide (fun k hk => by
          have hs := (unhide HB05).size
          rcases hat7 with h | h
          · have e := h.symm.trans hk
            cases e
            show wz.heap.size ≤ wz.heap.size
            omega
          · have e := h.symm.trans hk
            cases e
            exact hs)
        have HRW7 : Hid (Rw w7 (.slice (some ⟨wz.heap.size + 1, 0, none⟩) 1 1) 1 (enC ⟨et, ek, ed⟩)) := hide (Rw.kept1 (unhide HRW05) ((Touch.refl (fun q => q = wz.heap.size) _).grown hgrow7 (fun q hq _ => by cases hq; rfl)) (by rw [unhide HSZ05]; omega) (fun e => by have e1 : wz.heap.size + 1 = wz.heap.size := e; omega))
        clear hown7 hgrow7 hat7
        refine hK _ _ ?_
        clear hK K
        refine wpAny_ready (rs := [6]) (by kernel_rfl) (by simp) ?_
        refine AllReady.cons rfl (fun K hK => ?_) AllReady.nil
        refine step_append_row rfl _ _ _ rfl B 78 i0 _ 3 32 Try.underlying24 hi hz0 hz1 hz2 rfl (by omega) (.slice a7 l.length c7) l.length (ensC l) rfl (unhide HW7) (.slice (some ⟨wz.heap.size + 1, 0, none⟩) 1 1) 1 (enC ⟨et, ek, ed⟩) rfl (unhide HRW7) rfl hone2 (by unfold maxLen; omega) (by omega) (Nat.le_trans hBz (unhide HB7).size) ?_
        intro a9 c9 w9 hown9 hgrow9 hat9
        have hb8 := (unhide HB7)
        have hb9 : Below wz.heap.size wz w9 := hb8.grown hgrow9 hb8.size (fun r hr => unhide HK7 r hr)
        obtain ⟨⟨hc9, hf9⟩, hF9⟩ := unhide HFIN w9 a9 c9 hb9 hown9 (fun k hk => by
          have hs := hb8.size
          rcases hat9 with h | h
          · exact unhide HK7 k (h.symm.trans hk)
          · have e := h.symm.trans hk
            cases e
            exact hs)
        have HF9 := hide hF9
        clear hown9 hgrow9 hat9 hb8 hb9 hF9
        refine hK _ _ ?_
        clear hK K
        refine wpAny_take (i := 7) (v := .pointer (some ⟨w.heap.size, 2, none⟩)) rfl (by kernel_rfl) (by kernel_rfl) (by kernel_rfl) (fun _ _ _ h => h) (Or.inl ⟨by rfl, ?_⟩) ?_
        · intro w
          go_simp
        refine wpAny_ready (rs := [8]) (by kernel_rfl) (by simp) ?_
        refine AllReady.cons rfl (fun K hK => ?_) AllReady.nil
        go_simp
        refine hK _ _ ?_
        clear hK K
        refine wpAny_done (by kernel_rfl) ?_ _
        go_wp2_with fail
        go_meet
        exact unhide HF9
      refine AllReady.cons rfl (fun K hK => ?_) AllReady.nil
      go_simp
      refine hK _ _ ?_
      clear hK K
      refine wpAny_ready (rs := [0]) (by kernel_rfl) (by simp) ?_
      refine AllReady.cons rfl (fun K hK => ?_) AllReady.nil
      go_simp
      refine hK _ _ ?_
      clear hK K
      refine wpAny_ready (rs := [3]) (by kernel_rfl) (by simp) ?_
      refine AllReady.cons rfl (fun K hK => ?_) AllReady.nil
      refine step_append_row rfl _ _ _ rfl B 78 i0 _ 3 32 Try.underlying24 hi hz0 hz1 hz2 rfl (by omega) (.slice (some ⟨wz.heap.size + 1, 0, none⟩) 0 0) 0 [] rfl (unhide HO50) (.slice a l.length c) l.length (ensC l) rfl (unhide HSRC _ (unhide HB50)) hlc hone (by unfold maxLen; omega) (by omega) (Nat.le_trans hBz (unhide HB50).size) ?_
      intro a7 c7 w7
      rw [Nat.zero_add, List.nil_append]
      intro hown7 hgrow7 hat7
      have HW7 := hide hown7
      have HB7 : Hid (Below wz.heap.size wz w7) := hide (grown_below (unhide HB50) hgrow7 (show wz.heap.size ≤ wz.heap.size + 1 by omega) (unhide HB50).size)
      have HK7 : Hid (∀ k, (Value.slice a7 l.length c7).ownBlock = some k → wz.heap.size ≤ k) := hide (fun k hk => by
        have hs := (unhide HB50).size
        rcases hat7 with h | h
        · have e := h.symm.trans hk
          cases e
          show wz.heap.size ≤ wz.heap.size + 1
          omega
        · have e := h.symm.trans hk
          cases e
          exact hs)
      have HRW7 : Hid (Rw w7 (.slice (some ⟨wz.heap.size, 0, none⟩) 1 1) 1 (enC ⟨et, ek, ed⟩)) := hide (Rw.kept1 (unhide HRW50) ((Touch.refl (fun q => q = wz.heap.size + 1) _).grown hgrow7 (fun q hq _ => by cases hq; rfl)) (by rw [unhide HSZ50]; omega) (fun e => by have e1 : wz.heap.size = wz.heap.size + 1 := e; omega))
      clear hown7 hgrow7 hat7
      refine hK _ _ ?_
      clear hK K
      refine wpAny_ready (rs := [6]) (by kernel_rfl) (by simp) ?_
      refine AllReady.cons rfl (fun K hK => ?_) AllReady.nil
      refine step_append_row rfl _ _ _ rfl B 78 i0 _ 3 32 Try.underlying24 hi hz0 hz1 hz2 rfl (by omega) (.slice a7 l.length c7) l.length (ensC l) rfl (unhide HW7) (.slice (some ⟨wz.heap.size, 0, none⟩) 1 1) 1 (enC ⟨et, ek, ed⟩) rfl (unhide HRW7) rfl hone2 (by unfold maxLen; omega) (by omega) (Nat.le_trans hBz (unhide HB7).size) ?_
      intro a9 c9 w9 hown9 hgrow9 hat9
      have hb8 := (unhide HB7)
      have hb9 : Below wz.heap.size wz w9 := hb8.grown hgrow9 hb8.size (fun r hr => unhide HK7 r hr)
      obtain ⟨⟨hc9, hf9⟩, hF9⟩ := unhide HFIN w9 a9 c9 hb9 hown9 (fun k hk => by
        have hs := hb8.size
        rcases hat9 with h | h
        · exact unhide HK7 k (h.symm.trans hk)
        · have e := h.symm.trans hk
          cases e
          exact hs)
      have HF9 := hide hF9
      clear hown9 hgrow9 hat9 hb8 hb9 hF9
      refine hK _ _ ?_
      clear hK K
      refine wpAny_take (i := 7) (v := .pointer (some ⟨w.heap.size, 2, none⟩)) rfl (by kernel_rfl) (by kernel_rfl) (by kernel_rfl) (fun _ _ _ h => h) (Or.inl ⟨by rfl, ?_⟩) ?_
      · intro w
        go_simp
      refine wpAny_ready (rs := [8]) (by kernel_rfl) (by simp) ?_
      refine AllReady.cons rfl (fun K hK => ?_) AllReady.nil
      go_simp
      refine hK _ _ ?_
      clear hK K
      refine wpAny_done (by kernel_rfl) ?_ _
      go_wp2_with fail
      go_meet
      exact unhide HF9
    refine AllReady.cons rfl (fun K hK => ?_) AllReady.nil
    go_simp
    refine hK _ _ ?_
    clear hK K
    refine wpAny_ready (rs := [0, 2, 5]) (by kernel_rfl) (by simp) ?_
    refine AllReady.cons rfl (fun K hK => ?_) ?_
    · go_simp
      refine hK _ _ ?_
      clear hK K
      refine wpAny_ready (rs := [2, 5]) (by kernel_rfl) (by simp) ?_
      refine AllReady.cons rfl (fun K hK => ?_) ?_
      · go_simp
        refine hK _ _ ?_
        clear hK K
        refine wpAny_ready (rs := [3, 5]) (by kernel_rfl) (by simp) ?_
        refine AllReady.cons rfl (fun K hK => ?_) ?_
        · refine step_append_row rfl _ _ _ rfl B 78 i0 _ 3 32 Try.underlying24 hi hz0 hz1 hz2 rfl (by omega) (.slice (some ⟨wz.heap.size, 0, none⟩) 0 0) 0 [] rfl (unhide HO0) (.slice a l.length c) l.length (ensC l) rfl (unhide HSRC _ (unhide HB0)) hlc hone (by unfold maxLen; omega) (by omega) (Nat.le_trans hBz (unhide HB0).size) ?_
          intro a7 c7 w7
          rw [Nat.zero_add, List.nil_append]
          intro hown7 hgrow7 hat7
          have HW7 := hide hown7
          have HB7 : Hid (Below wz.heap.size wz w7) := hide (grown_below (unhide HB0) hgrow7 (show wz.heap.size ≤ wz.heap.size by omega) (unhide HB0).size)
          have HK7 : Hid (∀ k, (Value.slice a7 l.length c7).ownBlock = some k → wz.heap.size ≤ k) := hide (fun k hk => by
            have hs := (unhide HB0).size
            rcases hat7 with h | h
            · have e := h.symm.trans hk
              cases e
              show wz.heap.size ≤ wz.heap.size
              omega
            · have e := h.symm.trans hk
              cases e
              exact hs)
          clear hown7 hgrow7 hat7
          refine hK _ _ ?_
          clear hK K
          refine wpAny_ready (rs := [5]) (by kernel_rfl) (by simp) ?_
          refine AllReady.cons rfl (fun K hK => ?_) AllReady.nil
          go_simp
          refine hK _ _ ?_
          clear hK K
          refine wpAny_ready (rs := [6]) (by kernel_rfl) (by simp) ?_
          refine AllReady.cons rfl (fun K hK => ?_) AllReady.nil
          refine step_append_row rfl _ _ _ rfl B 78 i0 _ 3 32 Try.underlying24 hi hz0 hz1 hz2 rfl (by omega) (.slice a7 l.length c7) l.length (ensC l) rfl ((unhide HW7).alloc _) (.slice (some ⟨w7.heap.size, 0, none⟩) 1 1) 1 (enC ⟨et, ek, ed⟩) rfl (en_rw1 w7 ⟨et, ek, ed⟩ 78) rfl hone2 (by unfold maxLen; omega) (by omega) (Nat.le_trans hBz (Nat.le_trans (unhide HB7).size (by rw [World.size_alloc]; exact Nat.le_succ _))) ?_
          intro a9 c9 w9 hown9 hgrow9 hat9
          have hb8 := ((unhide HB7).alloc (unhide HB7).size (.cells #[.int .i64 et, .int .i64 ek, .string ed] 78))
          have hb9 : Below wz.heap.size wz w9 := hb8.grown hgrow9 hb8.size (fun r hr => unhide HK7 r hr)
          obtain ⟨⟨hc9, hf9⟩, hF9⟩ := unhide HFIN w9 a9 c9 hb9 hown9 (fun k hk => by
            have hs := hb8.size
            rcases hat9 with h | h
            · exact unhide HK7 k (h.symm.trans hk)
            · have e := h.symm.trans hk
              cases e
              exact hs)
          have HF9 := hide hF9
          clear hown9 hgrow9 hat9 hb8 hb9 hF9
          refine hK _ _ ?_
          clear hK K
          refine wpAny_take (i := 7) (v := .pointer (some ⟨w.heap.size, 2, none⟩)) rfl (by kernel_rfl) (by kernel_rfl) (by kernel_rfl) (fun _ _ _ h => h) (Or.inl ⟨by rfl, ?_⟩) ?_
          · intro w
            go_simp
          refine wpAny_ready (rs := [8]) (by kernel_rfl) (by simp) ?_
          refine AllReady.cons rfl (fun K hK => ?_) AllReady.nil
          go_simp
          refine hK _ _ ?_
          clear hK K
          refine wpAny_done (by kernel_rfl) ?_ _
          go_wp2_with fail
          go_meet
          exact unhide HF9
        refine AllReady.cons rfl (fun K hK => ?_) AllReady.nil
        go_simp
        refine hK _ _ ?_
        clear hK K
        refine wpAny_ready (rs := [3]) (by kernel_rfl) (by simp) ?_
        refine AllReady.cons rfl (fun K hK => ?_) AllReady.nil
        refine step_append_row rfl _ _ _ rfl B 78 i0 _ 3 32 Try.underlying24 hi hz0 hz1 hz2 rfl (by omega) (.slice (some ⟨wz.heap.size, 0, none⟩) 0 0) 0 [] rfl (unhide HO05) (.slice a l.length c) l.length (ensC l) rfl (unhide HSRC _ (unhide HB05)) hlc hone (by unfold maxLen; omega) (by omega) (Nat.le_trans hBz (unhide HB05).size) ?_
        intro a7 c7 w7
        rw [Nat.zero_add, List.nil_append]
        intro hown7 hgrow7 hat7
        have HW7 := hide hown7
        have HB7 : Hid (Below wz.heap.size wz w7) := hide (grown_below (unhide HB05) hgrow7 (show wz.heap.size ≤ wz.heap.size by omega) (unhide HB05).size)
        have HK7 : Hid (∀ k, (Value.slice a7 l.length c7).ownBlock = some k → wz.heap.size ≤ k) := hide (fun k hk => by
          have hs := (unhide HB05).size
          rcases hat7 with h | h
          · have e := h.symm.trans hk
            cases e
            show wz.heap.size ≤ wz.heap.size
            omega
          · have e := h.symm.trans hk
            cases e
            exact hs)
        have HRW7 : Hid (Rw w7 (.slice (some ⟨wz.heap.size + 1, 0, none⟩) 1 1) 1 (enC ⟨et, ek, ed⟩)) := hide (Rw.kept1 (unhide HRW05) ((Touch.refl (fun q => q = wz.heap.size) _).grown hgrow7 (fun q hq _ => by cases hq; rfl)) (by rw [unhide HSZ05]; omega) (fun e => by have e1 : wz.heap.size + 1 = wz.heap.size := e; omega))
        clear hown7 hgrow7 hat7
        refine hK _ _ ?_
        clear hK K
        refine wpAny_ready (rs := [6]) (by kernel_rfl) (by simp) ?_
        refine AllReady.cons rfl (fun K hK => ?_) AllReady.nil
        refine step_append_row rfl _ _ _ rfl B 78 i0 _ 3 32 Try.underlying24 hi hz0 hz1 hz2 rfl (by omega) (.slice a7 l.length c7) l.length (ensC l) rfl (unhide HW7) (.slice (some ⟨wz.heap.size + 1, 0, none⟩) 1 1) 1 (enC ⟨et, ek, ed⟩) rfl (unhide HRW7) rfl hone2 (by unfold maxLen; omega) (by omega) (Nat.le_trans hBz (unhide HB7).size) ?_
        intro a9 c9 w9 hown9 hgrow9 hat9
        have hb8 := (unhide HB7)
        have hb9 : Below wz.heap.size wz w9 := hb8.grown hgrow9 hb8.size (fun r hr => unhide HK7 r hr)
        obtain ⟨⟨hc9, hf9⟩, hF9⟩ := unhide HFIN w9 a9 c9 hb9 hown9 (fun k hk => by
          have hs := hb8.size
          rcases hat9 with h | h
          · exact unhide HK7 k (h.symm.trans hk)
          · have e := h.symm.trans hk
            cases e
            exact hs)
        have HF9 := hide hF9
        clear hown9 hgrow9 hat9 hb8 hb9 hF9
        refine hK _ _ ?_
        clear hK K
        refine wpAny_take (i := 7) (v := .pointer (some ⟨w.heap.size, 2, none⟩)) rfl (by kernel_rfl) (by kernel_rfl) (by kernel_rfl) (fun _ _ _ h => h) (Or.inl ⟨by rfl, ?_⟩) ?_
        · intro w
          go_simp
        refine wpAny_ready (rs := [8]) (by kernel_rfl) (by simp) ?_
        refine AllReady.cons rfl (fun K hK => ?_) AllReady.nil
        go_simp
        refine hK _ _ ?_
        clear hK K
        refine wpAny_done (by kernel_rfl) ?_ _
        go_wp2_with fail
        go_meet
        exact unhide HF9
      refine AllReady.cons rfl (fun K hK => ?_) AllReady.nil
      go_simp
      refine hK _ _ ?_
      clear hK K
      refine wpAny_ready (rs := [2]) (by kernel_rfl) (by simp) ?_
      refine AllReady.cons rfl (fun K hK => ?_) AllReady.nil
      go_simp
      refine hK _ _ ?_
      clear hK K
      refine wpAny_ready (rs := [3]) (by kernel_rfl) (by simp) ?_
      refine AllReady.cons rfl (fun K hK => ?_) AllReady.nil
      refine step_append_row rfl _ _ _ rfl B 78 i0 _ 3 32 Try.underlying24 hi hz0 hz1 hz2 rfl (by omega) (.slice (some ⟨wz.heap.size, 0, none⟩) 0 0) 0 [] rfl (unhide HO05) (.slice a l.length c) l.length (ensC l) rfl (unhide HSRC _ (unhide HB05)) hlc hone (by unfold maxLen; omega) (by omega) (Nat.le_trans hBz (unhide HB05).size) ?_
      intro a7 c7 w7
      rw [Nat.zero_add, List.nil_append]
      intro hown7 hgrow7 hat7
      have HW7 := hide hown7
      have HB7 : Hid (Below wz.heap.size wz w7) := hide (grown_below (unhide HB05) hgrow7 (show wz.heap.size ≤ wz.heap.size by omega) (unhide HB05).size)
      have HK7 : Hid (∀ k, (Value.slice a7 l.length c7).ownBlock = some k → wz.heap.size ≤ k) := hide (fun k hk => by
        have hs := (unhide HB05).size
        rcases hat7 with h | h
        · have e := h.symm.trans hk
          cases e
          show wz.heap.size ≤ wz.heap.size
          omega
        · have e := h.symm.trans hk
          cases e
          exact hs)
      have HRW7 : Hid (Rw w7 (.slice (some ⟨wz.heap.size + 1, 0, none⟩) 1 1) 1 (enC ⟨et, ek, ed⟩)) := hide (Rw.kept1 (unhide HRW05) ((Touch.refl (fun q => q = wz.heap.size) _).grown hgrow7 (fun q hq _ => by cases hq; rfl)) (by rw [unhide HSZ05]; omega) (fun e => by have e1 : wz.heap.size + 1 = wz.heap.size := e; omega))
      clear hown7 hgrow7 hat7
      refine hK _ _ ?_
      clear hK K
      refine wpAny_ready (rs := [6]) (by kernel_rfl) (by simp) ?_
      refine AllReady.cons rfl (fun K hK => ?_) AllReady.nil
      refine step_append_row rfl _ _ _ rfl B 78 i0 _ 3 32 Try.underlying24 hi hz0 hz1 hz2 rfl (by omega) (.slice a7 l.length c7) l.length (ensC l) rfl (unhide HW7) (.slice (some ⟨wz.heap.size + 1, 0, none⟩) 1 1) 1 (enC ⟨et, ek, ed⟩) rfl (unhide HRW7) rfl hone2 (by unfold maxLen; omega) (by omega) (Nat.le_trans hBz (unhide HB7).size) ?_
      intro a9 c9 w9 hown9 hgrow9 hat9
      have hb8 := (unhide HB7)
      have hb9 : Below wz.heap.size wz w9 := hb8.grown hgrow9 hb8.size (fun r hr => unhide HK7 r hr)
      obtain ⟨⟨hc9, hf9⟩, hF9⟩ := unhide HFIN w9 a9 c9 hb9 hown9 (fun k hk => by
        have hs := hb8.size
        rcases hat9 with h | h
        · exact unhide HK7 k (h.symm.trans hk)
        · have e := h.symm.trans hk
          cases e
          exact hs)
      have HF9 := hide hF9
      clear hown9 hgrow9 hat9 hb8 hb9 hF9
      refine hK _ _ ?_
      clear hK K
      refine wpAny_take (i := 7) (v := .pointer (some ⟨w.heap.size, 2, none⟩)) rfl (by kernel_rfl) (by kernel_rfl) (by kernel_rfl) (fun _ _ _ h => h) (Or.inl ⟨by rfl, ?_⟩) ?_
      · intro w
        go_simp
      refine wpAny_ready (rs := [8]) (by kernel_rfl) (by simp) ?_
      refine AllReady.cons rfl (fun K hK => ?_) AllReady.nil
      go_simp
      refine hK _ _ ?_
      clear hK K
      refine wpAny_done (by kernel_rfl) ?_ _
      go_wp2_with fail
      go_meet
      exact unhide HF9
    refine AllReady.cons rfl (fun K hK => ?_) ?_
    · go_simp
      refine hK _ _ ?_
      clear hK K
      refine wpAny_ready (rs := [0, 5]) (by kernel_rfl) (by simp) ?_
      refine AllReady.cons rfl (fun K hK => ?_) ?_
      · go_simp
        refine hK _ _ ?_
        clear hK K
        refine wpAny_ready (rs := [3, 5]) (by kernel_rfl) (by simp) ?_
        refine AllReady.cons rfl (fun K hK => ?_) ?_
        · refine step_append_row rfl _ _ _ rfl B 78 i0 _ 3 32 Try.underlying24 hi hz0 hz1 hz2 rfl (by omega) (.slice (some ⟨wz.heap.size, 0, none⟩) 0 0) 0 [] rfl (unhide HO0) (.slice a l.length c) l.length (ensC l) rfl (unhide HSRC _ (unhide HB0)) hlc hone (by unfold maxLen; omega) (by omega) (Nat.le_trans hBz (unhide HB0).size) ?_
          intro a7 c7 w7
          rw [Nat.zero_add, List.nil_append]
          intro hown7 hgrow7 hat7
          have HW7 := hide hown7
          have HB7 : Hid (Below wz.heap.size wz w7) := hide (grown_below (unhide HB0) hgrow7 (show wz.heap.size ≤ wz.heap.size by omega) (unhide HB0).size)
          have HK7 : Hid (∀ k, (Value.slice a7 l.length c7).ownBlock = some k → wz.heap.size ≤ k) := hide (fun k hk => by
            have hs := (unhide HB0).size
            rcases hat7 with h | h
            · have e := h.symm.trans hk
              cases e
              show wz.heap.size ≤ wz.heap.size
              omega
            · have e := h.symm.trans hk
              cases e
              exact hs)
          clear hown7 hgrow7 hat7
          refine hK _ _ ?_
          clear hK K
          refine wpAny_ready (rs := [5]) (by kernel_rfl) (by simp) ?_
          refine AllReady.cons rfl (fun K hK => ?_) AllReady.nil
          go_simp
          refine hK _ _ ?_
          clear hK K
          refine wpAny_ready (rs := [6]) (by kernel_rfl) (by simp) ?_
          refine AllReady.cons rfl (fun K hK => ?_) AllReady.nil
          refine step_append_row rfl _ _ _ rfl B 78 i0 _ 3 32 Try.underlying24 hi hz0 hz1 hz2 rfl (by omega) (.slice a7 l.length c7) l.length (ensC l) rfl ((unhide HW7).alloc _) (.slice (some ⟨w7.heap.size, 0, none⟩) 1 1) 1 (enC ⟨et, ek, ed⟩) rfl (en_rw1 w7 ⟨et, ek, ed⟩ 78) rfl hone2 (by unfold maxLen; omega) (by omega) (Nat.le_trans hBz (Nat.le_trans (unhide HB7).size (by rw [World.size_alloc]; exact Nat.le_succ _))) ?_
          intro a9 c9 w9 hown9 hgrow9 hat9
          have hb8 := ((unhide HB7).alloc (unhide HB7).size (.cells #[.int .i64 et, .int .i64 ek, .string ed] 78))
          have hb9 : Below wz.heap.size wz w9 := hb8.grown hgrow9 hb8.size (fun r hr => unhide HK7 r hr)
          obtain ⟨⟨hc9, hf9⟩, hF9⟩ := unhide HFIN w9 a9 c9 hb9 hown9 (fun k hk => by
            have hs := hb8.size
            rcases hat9 with h | h
            · exact unhide HK7 k (h.symm.trans hk)
            · have e := h.symm.trans hk
              cases e
              exact hs)
          have HF9 := hide hF9
          clear hown9 hgrow9 hat9 hb8 hb9 hF9
          refine hK _ _ ?_
          clear hK K
          refine wpAny_take (i := 7) (v := .pointer (some ⟨w.heap.size, 2, none⟩)) rfl (by kernel_rfl) (by kernel_rfl) (by kernel_rfl) (fun _ _ _ h => h) (Or.inl ⟨by rfl, ?_⟩) ?_
          · intro w
            go_simp
          refine wpAny_ready (rs := [8]) (by kernel_rfl) (by simp) ?_
          refine AllReady.cons rfl (fun K hK => ?_) AllReady.nil
          go_simp
          refine hK _ _ ?_
          clear hK K
          refine wpAny_done (by kernel_rfl) ?_ _
          go_wp2_with fail
          go_meet
          exact unhide HF9
        refine AllReady.cons rfl (fun K hK => ?_) AllReady.nil
        go_simp
        refine hK _ _ ?_
        clear hK K
        refine wpAny_ready (rs := [3]) (by kernel_rfl) (by simp) ?_
        refine AllReady.cons rfl (fun K hK => ?_) AllReady.nil
        refine step_append_row rfl _ _ _ rfl B 78 i0 _ 3 32 Try.underlying24 hi hz0 hz1 hz2 rfl (by omega) (.slice (some ⟨wz.heap.size, 0, none⟩) 0 0) 0 [] rfl (unhide HO05) (.slice a l.length c) l.length (ensC l) rfl (unhide HSRC _ (unhide HB05)) hlc hone (by unfold maxLen; omega) (by omega) (Nat.le_trans hBz (unhide HB05).size) ?_
        intro a7 c7 w7
        rw [Nat.zero_add, List.nil_append]
        intro hown7 hgrow7 hat7
        have HW7 := hide hown7
        have HB7 : Hid (Below wz.heap.size wz w7) := hide (grown_below (unhide HB05) hgrow7 (show wz.heap.size ≤ wz.heap.size by omega) (unhide HB05).size)
        have HK7 : Hid (∀ k, (Value.slice a7 l.length c7).ownBlock = some k → wz.heap.size ≤ k) := hide (fun k hk => by
          have hs := (unhide HB05).size
          rcases hat7 with h | h
          · have e := h.symm.trans hk
            cases e
            show wz.heap.size ≤ wz.heap.size
            omega
          · have e := h.symm.trans hk
            cases e
            exact hs)
        have HRW7 : Hid (Rw w7 (.slice (some ⟨wz.heap.size + 1, 0, none⟩) 1 1) 1 (enC ⟨et, ek, ed⟩)) := hide (Rw.kept1 (unhide HRW05) ((Touch.refl (fun q => q = wz.heap.size) _).grown hgrow7 (fun q hq _ => by cases hq; rfl)) (by rw [unhide HSZ05]; omega) (fun e => by have e1 : wz.heap.size + 1 = wz.heap.size := e; omega))
        clear hown7 hgrow7 hat7
        refine hK _ _ ?_
        clear hK K
        refine wpAny_ready (rs := [6]) (by kernel_rfl) (by simp) ?_
        refine AllReady.cons rfl (fun K hK => ?_) AllReady.nil
        refine step_append_row rfl _ _ _ rfl B 78 i0 _ 3 32 Try.underlying24 hi hz0 hz1 hz2 rfl (by omega) (.slice a7 l.length c7) l.length (ensC l) rfl (unhide HW7) (.slice (some ⟨wz.heap.size + 1, 0, none⟩) 1 1) 1 (enC ⟨et, ek, ed⟩) rfl (unhide HRW7) rfl hone2 (by unfold maxLen; omega) (by omega) (Nat.le_trans hBz (unhide HB7).size) ?_
        intro a9 c9 w9 hown9 hgrow9 hat9
        have hb8 := (unhide HB7)
        have hb9 : Below wz.heap.size wz w9 := hb8.grown hgrow9 hb8.size (fun r hr => unhide HK7 r hr)
        obtain ⟨⟨hc9, hf9⟩, hF9⟩ := unhide HFIN w9 a9 c9 hb9 hown9 (fun k hk => by
          have hs := hb8.size
          rcases hat9 with h | h
          · exact unhide HK7 k (h.symm.trans hk)
          · have e := h.symm.trans hk
            cases e
            exact hs)
        have HF9 := hide hF9
        clear hown9 hgrow9 hat9 hb8 hb9 hF9
        refine hK _ _ ?_
        clear hK K
        refine wpAny_take (i := 7) (v := .pointer (some ⟨w.heap.size, 2, none⟩)) rfl (by kernel_rfl) (by kernel_rfl) (by kernel_rfl) (fun _ _ _ h => h) (Or.inl ⟨by rfl, ?_⟩) ?_
        · intro w
          go_simp
        refine wpAny_ready (rs := [8]) (by kernel_rfl) (by simp) ?_
        refine AllReady.cons rfl (fun K hK => ?_) AllReady.nil
        go_simp
        refine hK _ _ ?_
        clear hK K
        refine wpAny_done (by kernel_rfl) ?_ _
        go_wp2_with fail
        go_meet
        exact unhide HF9
      refine AllReady.cons rfl (fun K hK => ?_) AllReady.nil
      go_simp
      refine hK _ _ ?_
      clear hK K
      refine wpAny_ready (rs := [0]) (by kernel_rfl) (by simp) ?_
      refine AllReady.cons rfl (fun K hK => ?_) AllReady.nil
      go_simp
      refine hK _ _ ?_
      clear hK K
      refine wpAny_ready (rs := [3]) (by kernel_rfl) (by simp) ?_
      refine AllReady.cons rfl (fun K hK => ?_) AllReady.nil
      refine step_append_row rfl _ _ _ rfl B 78 i0 _ 3 32 Try.underlying24 hi hz0 hz1 hz2 rfl (by omega) (.slice (some ⟨wz.heap.size + 1, 0, none⟩) 0 0) 0 [] rfl (unhide HO50) (.slice a l.length c) l.length (ensC l) rfl (unhide HSRC _ (unhide HB50)) hlc hone (by unfold maxLen; omega) (by omega) (Nat.le_trans hBz (unhide HB50).size) ?_
      intro a7 c7 w7
      rw [Nat.zero_add, List.nil_append]
      intro hown7 hgrow7 hat7
      have HW7 := hide hown7
      have HB7 : Hid (Below wz.heap.size wz w7) := hide (grown_below (unhide HB50) hgrow7 (show wz.heap.size ≤ wz.heap.size + 1 by omega) (unhide HB50).size)
      have HK7 : Hid (∀ k, (Value.slice a7 l.length c7).ownBlock = some k → wz.heap.size ≤ k) := hide (fun k hk => by
        have hs := (unhide HB50).size
        rcases hat7 with h | h
        · have e := h.symm.trans hk
          cases e
          show wz.heap.size ≤ wz.heap.size + 1
          omega
        · have e := h.symm.trans hk
          cases e
          exact hs)
      have HRW7 : Hid (Rw w7 (.slice (some ⟨wz.heap.size, 0, none⟩) 1 1) 1 (enC ⟨et, ek, ed⟩)) := hide (Rw.kept1 (unhide HRW50) ((Touch.refl (fun q => q = wz.heap.size + 1) _).grown hgrow7 (fun q hq _ => by cases hq; rfl)) (by rw [unhide HSZ50]; omega) (fun e => by have e1 : wz.heap.size = wz.heap.size + 1 := e; omega))
      clear hown7 hgrow7 hat7
      refine hK _ _ ?_
      clear hK K
      refine wpAny_ready (rs := [6]) (by kernel_rfl) (by simp) ?_
      refine AllReady.cons rfl (fun K hK => ?_) AllReady.nil
      refine step_append_row rfl _ _ _ rfl B 78 i0 _ 3 32 Try.underlying24 hi hz0 hz1 hz2 rfl (by omega) (.slice a7 l.length c7) l.length (ensC l) rfl (unhide HW7) (.slice (some ⟨wz.heap.size, 0, none⟩) 1 1) 1 (enC ⟨et, ek, ed⟩) rfl (unhide HRW7) rfl hone2 (by unfold maxLen; omega) (by omega) (Nat.le_trans hBz (unhide HB7).size) ?_
      intro a9 c9 w9 hown9 hgrow9 hat9
      have hb8 := (unhide HB7)
      have hb9 : Below wz.heap.size wz w9 := hb8.grown hgrow9 hb8.size (fun r hr => unhide HK7 r hr)
      obtain ⟨⟨hc9, hf9⟩, hF9⟩ := unhide HFIN w9 a9 c9 hb9 hown9 (fun k hk => by
        have hs := hb8.size
        rcases hat9 with h | h
        · exact unhide HK7 k (h.symm.trans hk)
        · have e := h.symm.trans hk
          cases e
          exact hs)
      have HF9 := hide hF9
      clear hown9 hgrow9 hat9 hb8 hb9 hF9
      refine hK _ _ ?_
      clear hK K
      refine wpAny_take (i := 7) (v := .pointer (some ⟨w.heap.size, 2, none⟩)) rfl (by kernel_rfl) (by kernel_rfl) (by kernel_rfl) (fun _ _ _ h => h) (Or.inl ⟨by rfl, ?_⟩) ?_
      · intro w
        go_simp
      refine wpAny_ready (rs := [8]) (by kernel_rfl) (by simp) ?_
      refine AllReady.cons rfl (fun K hK => ?_) AllReady.nil
      go_simp
      refine hK _ _ ?_
      clear hK K
      refine wpAny_done (by kernel_rfl) ?_ _
      go_wp2_with fail
      go_meet
      exact unhide HF9
    refine AllReady.cons rfl (fun K hK => ?_) AllReady.nil
    go_simp
    refine hK _ _ ?_
    clear hK K
    refine wpAny_ready (rs := [0, 2]) (by kernel_rfl) (by simp) ?_
    refine AllReady.cons rfl (fun K hK => ?_) ?_
    · go_simp
      refine hK _ _ ?_
      clear hK K
      refine wpAny_ready (rs := [2]) (by kernel_rfl) (by simp) ?_
      refine AllReady.cons rfl (fun K hK => ?_) AllReady.nil
      go_simp
      refine hK _ _ ?_
      clear hK K
      refine wpAny_ready (rs := [3]) (by kernel_rfl) (by simp) ?_
      refine AllReady.cons rfl (fun K hK => ?_) AllReady.nil
      refine step_append_row rfl _ _ _ rfl B 78 i0 _ 3 32 Try.underlying24 hi hz0 hz1 hz2 rfl (by omega) (.slice (some ⟨wz.heap.size + 1, 0, none⟩) 0 0) 0 [] rfl (unhide HO50) (.slice a l.length c) l.length (ensC l) rfl (unhide HSRC _ (unhide HB50)) hlc hone (by unfold maxLen; omega) (by omega) (Nat.le_trans hBz (unhide HB50).size) ?_
      intro a7 c7 w7
      rw [Nat.zero_add, List.nil_append]
      intro hown7 hgrow7 hat7
      have HW7 := hide hown7
      have HB7 : Hid (Below wz.heap.size wz w7) := hide (grown_below (unhide HB50) hgrow7 (show wz.heap.size ≤ wz.heap.size + 1 by omega) (unhide HB50).size)
      have HK7 : Hid (∀ k, (Value.slice a7 l.length c7).ownBlock = some k → wz.heap.size ≤ k) := hide (fun k hk => by
        have hs := (unhide HB50).size
        rcases hat7 with h | h
        · have e := h.symm.trans hk
          cases e
          show wz.heap.size ≤ wz.heap.size + 1
          omega
        · have e := h.symm.trans hk
          cases e
          exact hs)
      have HRW7 : Hid (Rw w7 (.slice (some ⟨wz.heap.size, 0, none⟩) 1 1) 1 (enC ⟨et, ek, ed⟩)) := hide (Rw.kept1 (unhide HRW50) ((Touch.refl (fun q => q = wz.heap.size + 1) _).grown hgrow7 (fun q hq _ => by cases hq; rfl)) (by rw [unhide HSZ50]; omega) (fun e => by have e1 : wz.heap.size = wz.heap.size + 1 := e; omega))
      clear hown7 hgrow7 hat7
      refine hK _ _ ?_
      clear hK K
      refine wpAny_ready (rs := [6]) (by kernel_rfl) (by simp) ?_
      refine AllReady.cons rfl (fun K hK => ?_) AllReady.nil
      refine step_append_row rfl _ _ _ rfl B 78 i0 _ 3 32 Try.underlying24 hi hz0 hz1 hz2 rfl (by omega) (.slice a7 l.length c7) l.length (ensC l) rfl (unhide HW7) (.slice (some ⟨wz.heap.size, 0, none⟩) 1 1) 1 (enC ⟨et, ek, ed⟩) rfl (unhide HRW7) rfl hone2 (by unfold maxLen; omega) (by omega) (Nat.le_trans hBz (unhide HB7).size) ?_
      intro a9 c9 w9 hown9 hgrow9 hat9
      have hb8 := (unhide HB7)
      have hb9 : Below wz.heap.size wz w9 := hb8.grown hgrow9 hb8.size (fun r hr => unhide HK7 r hr)
      obtain ⟨⟨hc9, hf9⟩, hF9⟩ := unhide HFIN w9 a9 c9 hb9 hown9 (fun k hk => by
        have hs := hb8.size
        rcases hat9 with h | h
        · exact unhide HK7 k (h.symm.trans hk)
        · have e := h.symm.trans hk
          cases e
          exact hs)
      have HF9 := hide hF9
      clear hown9 hgrow9 hat9 hb8 hb9 hF9
      refine hK _ _ ?_
      clear hK K
      refine wpAny_take (i := 7) (v := .pointer (some ⟨w.heap.size, 2, none⟩)) rfl (by kernel_rfl) (by kernel_rfl) (by kernel_rfl) (fun _ _ _ h => h) (Or.inl ⟨by rfl, ?_⟩) ?_
      · intro w
        go_simp
      refine wpAny_ready (rs := [8]) (by kernel_rfl) (by simp) ?_
      refine AllReady.cons rfl (fun K hK => ?_) AllReady.nil
      go_simp
      refine hK _ _ ?_
      clear hK K
      refine wpAny_done (by kernel_rfl) ?_ _
      go_wp2_with fail
      go_meet
      exact unhide HF9
    refine AllReady.cons rfl (fun K hK => ?_) AllReady.nil
    go_simp
    refine hK _ _ ?_
    clear hK K
    refine wpAny_ready (rs := [0]) (by kernel_rfl) (by simp) ?_
    refine AllReady.cons rfl (fun K hK => ?_) AllReady.nil
    go_simp
    refine hK _ _ ?_
    clear hK K
    refine wpAny_ready (rs := [3]) (by kernel_rfl) (by simp) ?_
    refine AllReady.cons rfl (fun K hK => ?_) AllReady.nil
    refine step_append_row rfl _ _ _ rfl B 78 i0 _ 3 32 Try.underlying24 hi hz0 hz1 hz2 rfl (by omega) (.slice (some ⟨wz.heap.size + 1, 0, none⟩) 0 0) 0 [] rfl (unhide HO50) (.slice a l.length c) l.length (ensC l) rfl (unhide HSRC _ (unhide HB50)) hlc hone (by unfold maxLen; omega) (by omega) (Nat.le_trans hBz (unhide HB50).size) ?_
    intro a7 c7 w7
    rw [Nat.zero_add, List.nil_append]
    intro hown7 hgrow7 hat7
    have HW7 := hide hown7
    have HB7 : Hid (Below wz.heap.size wz w7) := hide (grown_below (unhide HB50) hgrow7 (show wz.heap.size ≤ wz.heap.size + 1 by omega) (unhide HB50).size)
    have HK7 : Hid (∀ k, (Value.slice a7 l.length c7).ownBlock = some k → wz.heap.size ≤ k) := hide (fun k hk => by
      have hs := (unhide HB50).size
      rcases hat7 with h | h
      · have e := h.symm.trans hk
        cases e
        show wz.heap.size ≤ wz.heap.size + 1
        omega
      · have e := h.symm.trans hk
        cases e
        exact hs)
    have HRW7 : Hid (Rw w7 (.slice (some ⟨wz.heap.size, 0, none⟩) 1 1) 1 (enC ⟨et, ek, ed⟩)) := hide (Rw.kept1 (unhide HRW50) ((Touch.refl (fun q => q = wz.heap.size + 1) _).grown hgrow7 (fun q hq _ => by cases hq; rfl)) (by rw [unhide HSZ50]; omega) (fun e => by have e1 : wz.heap.size = wz.heap.size + 1 := e; omega))
    clear hown7 hgrow7 hat7
    refine hK _ _ ?_
    clear hK K
    refine wpAny_ready (rs := [6]) (by kernel_rfl) (by simp) ?_
    refine AllReady.cons rfl (fun K hK => ?_) AllReady.nil
    refine step_append_row rfl _ _ _ rfl B 78 i0 _ 3 32 Try.underlying24 hi hz0 hz1 hz2 rfl (by omega) (.slice a7 l.length c7) l.length (ensC l) rfl (unhide HW7) (.slice (some ⟨wz.heap.size, 0, none⟩) 1 1) 1 (enC ⟨et, ek, ed⟩) rfl (unhide HRW7) rfl hone2 (by unfold maxLen; omega) (by omega) (Nat.le_trans hBz (unhide HB7).size) ?_
    intro a9 c9 w9 hown9 hgrow9 hat9
    have hb8 := (unhide HB7)
    have hb9 : Below wz.heap.size wz w9 := hb8.grown hgrow9 hb8.size (fun r hr => unhide HK7 r hr)
    obtain ⟨⟨hc9, hf9⟩, hF9⟩ := unhide HFIN w9 a9 c9 hb9 hown9 (fun k hk => by
      have hs := hb8.size
      rcases hat9 with h | h
      · exact unhide HK7 k (h.symm.trans hk)
      · have e := h.symm.trans hk
        cases e
        exact hs)
    have HF9 := hide hF9
    clear hown9 hgrow9 hat9 hb8 hb9 hF9
    refine hK _ _ ?_
    clear hK K
    refine wpAny_take (i := 7) (v := .pointer (some ⟨w.heap.size, 2, none⟩)) rfl (by kernel_rfl) (by kernel_rfl) (by kernel_rfl) (fun _ _ _ h => h) (Or.inl ⟨by rfl, ?_⟩) ?_
    · intro w
      go_simp
    refine wpAny_ready (rs := [8]) (by kernel_rfl) (by simp) ?_
    refine AllReady.cons rfl (fun K hK => ?_) AllReady.nil
    go_simp
    refine hK _ _ ?_
    clear hK K
    refine wpAny_done (by kernel_rfl) ?_ _
    go_wp2_with fail
    go_meet
    exact unhide HF9
  case rest =>
    obtain ⟨a9, c9, hX9, hR9, hK9, hO9, hk9⟩ := hcut
    have HX9 := hide hX9
    have HR9 := hide hR9
    have HK9 := hide hK9
    have HO9 := hide hO9
    generalize hm : l ++ [⟨et, ek, ed⟩] = m at *
    have y0 := (unhide HX9).cell 0 rfl
    have y1 := (unhide HX9).cell 1 rfl
    have y2 := (unhide HX9).cell 2 rfl
    have r0 := (unhide HR9).cell 0 rfl
    have r1 := (unhide HR9).cell 1 rfl
    have r2 := (unhide HR9).cell 2 rfl
    have f0 := (unhide HR9).fro 0
    have f1 := (unhide HR9).fro 1
    have f2 := (unhide HR9).fro 2
    have W1 := hide (fold_ret3 (B := B) (tm := tm) (vo := vo) (lv := (.slice a9 m.length c9)) (unhide HR9) (unhide HK9))
    have HOW := hide ((unhide W1).2.2 _ (unhide HO9) (fun k hk e => by have := hk9 k hk; omega))
    clear hX9 hR9 hK9 hO9 HX5 HR5 HO5 HK5 HY5 HBZ HB0 HB5 HB05 HB50 HO0 HO05 HO50 HRW5 HRW05 HRW50 HSRC HFIN HYE gz g0 g5 g05 g50 kz0 kz1 kz2 k00 k01 k02 hm
    go_wp2_with fail
    generalize ((wc.setCell ⟨w.heap.size + 1, 0, none⟩ (.int .i64 tm)).setCell ⟨w.heap.size + 1, 1, none⟩ (.int .i64 vo)).setCell ⟨w.heap.size + 1, 2, none⟩ (.slice a9 m.length c9) = wf at *
    have z0 := (unhide W1).1.cell 0 rfl
    have z1 := (unhide W1).1.cell 1 rfl
    have z2 := (unhide W1).1.cell 2 rfl
    refine bodyPost_ret (v := .tuple #[.agg #[.int .i64 tm, .int .i64 vo, (.slice a9 m.length c9)], .bool okv]) (by simp [results, Try.results34, go_sem, z0, z1, z2]) rfl ?_
    cases okv with
    | true =>
      have HD := hide (show stepS ⟨tm, vo, l⟩ t = some ⟨tm, vo, m⟩ by rw [unhide HST, if_pos rfl])
      rw [unhide HD]
      exact ⟨_, _, _, _, _, rfl, fun s' h => (by cases h; exact ⟨rfl, rfl, rfl, unhide HOW, fun k hk => .inr (by have := hk9 k hk; omega)⟩), (unhide W1).2.1⟩
    | false =>
      have HD := hide (show stepS ⟨tm, vo, l⟩ t = none by rw [unhide HST, if_neg (by simp)])
      rw [unhide HD]
      exact ⟨_, _, _, _, _, rfl, fun s' h => (by cases h), (unhide W1).2.1⟩
end Go.Proofs.Ytpdjfjapdmopoaa
namespace Go.Proofs.Ytpdjfjapdmopoaa
open Go.ChangeShapes Go.WideShapes Go.ChangeAt Go.RowKit
set_option linter.unusedVariables false

theorem wrapSt (n : Int) (h0 : 0 ≤ n) (h1 : n < 9223372036854775808) : IntKind.i64.wrap n = n := by
  simp only [IntKind.wrap, IntKind.bits, IntKind.signed]
  simp
  omega
set_option maxRecDepth 100000 in
set_option maxHeartbeats 1000000 in
theorem specStateOK_any (tm vo : Int) (v : Value) (l : List En) (w : World) (h : Ens w v l) (hs : ∀ i, (l.getD i default).d.size ≤ 1048576) :
    Calls Try.prog 35 #[.agg #[.int .i64 tm, .int .i64 vo, v]] w fun e w' => e = .returned (.bool (stateB tm vo l)) ∧ Below w.heap.size w w' := by
  obtain ⟨a, cap, rfl, hn, hm, hc⟩ := h
  have HC := hide hc
  have HS := hide hs
  clear hc hs
  have B0 := hide ((Below.refl w.heap.size w).alloc (Nat.le_refl _) (.cells #[.int .i64 tm, .int .i64 vo, .slice a l.length cap] 26))
  have X0 := hide (Blk.new w #[.int .i64 tm, .int .i64 vo, .slice a l.length cap] 26 w.heap.size rfl)
  rcases Bool.eq_false_or_eq_true (inB tm 0 1000000) with h1 | h1
  case inr =>
    have HD : Hid (stateB tm vo l = false) := hide (by unfold stateB; rw [h1]; simp)
    go_enter Try.func35, Try.ntmps35
    go_wp2_with (go_at_call 51; refine (l01In_any _ _ _ _).mono ?_; rintro e w' ⟨rfl, hw'⟩; have hw2 := hw'.symm; clear hw'; subst hw2)
    go_ret
    exact ⟨ret_bool (unhide HD).symm, unhide B0⟩
  rcases Bool.eq_false_or_eq_true (inB vo (-1) 6) with h2 | h2
  case inr =>
    have HD : Hid (stateB tm vo l = false) := hide (by unfold stateB; rw [h2]; simp)
    go_enter Try.func35, Try.ntmps35
    go_wp2_with (go_at_call 51; refine (l01In_any _ _ _ _).mono ?_; rintro e w' ⟨rfl, hw'⟩; have hw2 := hw'.symm; clear hw'; subst hw2)
    go_ret
    exact ⟨ret_bool (unhide HD).symm, unhide B0⟩
  by_cases h3 : l.length ≤ 60
  case neg =>
    have HD : Hid (stateB tm vo l = false) := hide (by unfold stateB; rw [decide_eq_false h3]; simp)
    have h3b : (60 : Int) < (l.length : Int) := by omega
    go_enter Try.func35, Try.ntmps35
    go_wp2_with (go_at_call 51; refine (l01In_any _ _ _ _).mono ?_; rintro e w' ⟨rfl, hw'⟩; have hw2 := hw'.symm; clear hw'; subst hw2)
    go_ret
    exact ⟨ret_bool (unhide HD).symm, unhide B0⟩
  have h3b : ¬ (60 : Int) < (l.length : Int) := by omega
  go_enter Try.func35, Try.ntmps35
  go_wp2_with (go_at_call 51; refine (l01In_any _ _ _ _).mono ?_; rintro e w' ⟨rfl, hw'⟩; have hw2 := hw'.symm; clear hw'; subst hw2)
  generalize w.alloc (.cells #[.int .i64 tm, .int .i64 vo, .slice a l.length cap] 26) = w0 at *
  have c0 := (unhide X0).cell 0 rfl
  have c2 := (unhide X0).cell 2 rfl
  go_loopw [3] (fun i wr => ∃ k : Nat, k ≤ l.length ∧ i = .int .i64 k ∧ entTo tm l k ∧ Below (w.heap.size + 1) w0 wr) (fun i _ => l.length - (intOf i).toNat)
  case atStart => exact ⟨0, Nat.zero_le _, rfl, fun i hi => by omega, Below.refl _ _⟩
  case round =>
    obtain ⟨k, hk, rfl, hgo, hb⟩ := hrel
    have hbw : Below w.heap.size w wr := (unhide B0).trans (hb.mono (by omega))
    have d0 := (hb.cell (p := ⟨w.heap.size, 0, none⟩) (by simp)).trans c0
    have d2 := (hb.cell (p := ⟨w.heap.size, 2, none⟩) (by simp)).trans c2
    have hz0 := Nat.lt_of_lt_of_le (unhide X0).1 hb.size
    by_cases hlt : k < l.length
    · obtain ⟨b, off, rfl, hbl, hsrc⟩ : ∃ b off, a = some ⟨b, off, none⟩ ∧ b < w.heap.size ∧ ∀ i, i < l.length → w.cell? ⟨b, off + i * 3, none⟩ = some (.int .i64 (l.getD i default).t) ∧ w.cell? ⟨b, off + i * 3 + 1, none⟩ = some (.int .i64 (l.getD i default).k) ∧ w.cell? ⟨b, off + i * 3 + 2, none⟩ = some (.string (l.getD i default).d) := by
        rcases unhide HC with h0 | h1
        · omega
        · exact h1
      have hbl2 := Nat.lt_of_lt_of_le hbl hbw.size
      have hsrc2 : ∀ i, i < l.length → wr.cell? ⟨b, off + i * 3, none⟩ = some (.int .i64 (l.getD i default).t) ∧ wr.cell? ⟨b, off + i * 3 + 1, none⟩ = some (.int .i64 (l.getD i default).k) ∧ wr.cell? ⟨b, off + i * 3 + 2, none⟩ = some (.string (l.getD i default).d) := fun i hi => ⟨(hbw.cell (p := ⟨b, off + i * 3, none⟩) hbl).trans (hsrc i hi).1, (hbw.cell (p := ⟨b, off + i * 3 + 1, none⟩) hbl).trans (hsrc i hi).2.1, (hbw.cell (p := ⟨b, off + i * 3 + 2, none⟩) hbl).trans (hsrc i hi).2.2⟩
      obtain ⟨s0, s1, s2⟩ := hsrc2 k hlt
      have hk0 : (0 : Int) ≤ (k : Int) := by omega
      have hk1 : (k : Int) < (l.length : Int) := by omega
      have hfz := unhide HS k
      have HB := hide hb
      have HGo := hide hgo
      have HEB : Hid (entB tm l k = (entOK (l.getD k default).t (l.getD k default).k (l.getD k default).d && inB (l.getD k default).t (leastT l k) tm)) := hide rfl
      have HLS : Hid (∀ q, q + 1 = k → leastT l k = (l.getD q default).t) := hide (fun q hq => by subst hq; rfl)
      have HL0 : Hid (k = 0 → leastT l k = 0) := hide (fun hq => by subst hq; rfl)
      clear hsrc hb hbw hgo
      generalize leastT l k = ls at *
      have HSR := hide hsrc2
      clear hsrc2
      generalize hff : l.getD k default = f at *
      have HFF := hide hff
      clear hff
      obtain ⟨ft, fk, fd⟩ := f
      dsimp only at s0 s1 s2 hfz HEB HLS
      have hnm : fd.size ≤ maxLen := by unfold maxLen; omega
      have HEn := hide (fun wx => specEntry_any ft fk fd wx hnm hfz)
      have r0 := Wb.cell d0 hz0
      have r2 := Wb.cell d2 hz0
      have t0 := Wb.cell s0 hbl2
      have t1 := Wb.cell s1 hbl2
      have t2 := Wb.cell s2 hbl2
      go_wp2_with fail
      clear d0 d2 s0 s1 s2
      rcases Bool.eq_false_or_eq_true (entOK ft fk fd) with ho | ho
      case inr =>
        have HD := hide (state_bad (tm := tm) (vo := vo) hlt (by rw [unhide HEB, ho]; simp))
        rw [ho] at HEn
        refine wp_region_wb (by kernel_rfl) (by kernel_rfl) ?_
        repeat (go_big_quiet_step ((go_at_call 52; exact wb_of (unhide HEn _))))
        refine wpQuiet_nil ?_
        intro _ hw'
        obtain ⟨⟨w1, hb1⟩, rfl⟩ := hw'
        have HBW := hide ((unhide B0).trans (((unhide HB).mono (by omega)).trans (hb1.mono (by omega))))
        clear hb1 r0 r2 t0 t1 t2
        go_wp2_with fail
        go_ret
        exact ⟨ret_bool (unhide HD).symm, unhide HBW⟩
      rw [ho] at HEn
      have hft := (entOK_bounds ho).1
      by_cases htm : tm < ft
      · have HD := hide (state_bad (tm := tm) (vo := vo) hlt (by rw [unhide HEB]; simp [inB]; omega))
        refine wp_region_wb (by kernel_rfl) (by kernel_rfl) ?_
        repeat (go_big_quiet_step ((go_at_call 52; exact wb_of (unhide HEn _))))
        refine wpQuiet_nil ?_
        intro _ hw'
        obtain ⟨⟨w1, hb1⟩, rfl⟩ := hw'
        have HBW := hide ((unhide B0).trans (((unhide HB).mono (by omega)).trans (hb1.mono (by omega))))
        clear hb1 r0 r2 t0 t1 t2
        go_wp2_with fail
        go_ret
        exact ⟨ret_bool (unhide HD).symm, unhide HBW⟩
      have htmd : decide (tm < ft) = false := by rw [decide_eq_false_iff_not]; exact htm
      rcases Nat.eq_zero_or_pos k with hk00 | hkp
      · have HN := hide ((unhide HGo).next (by rw [unhide HEB, ho, unhide HL0 hk00]; simp [inB]; omega))
        have p0d : decide (0 < k) = false := by rw [decide_eq_false_iff_not]; omega
        have HK0 := hide hk00
        clear hk00
        refine wp_region_wb (by kernel_rfl) (by kernel_rfl) ?_
        repeat (go_big_quiet_step ((go_at_call 52; exact wb_of (unhide HEn _))))
        refine wpQuiet_nil ?_
        intro _ hw'
        obtain ⟨⟨w1, hb1⟩, rfl⟩ := hw'
        have HB1 := hide ((unhide HB).trans (hb1.mono (by omega)))
        clear hb1 r0 r2 t0 t1 t2
        go_wp2_with fail
        refine ⟨⟨k + 1, by omega, by go_num, unhide HN, unhide HB1⟩, ?_⟩
        simp [intOf]; omega
      · obtain ⟨q, hq⟩ : ∃ q : Nat, (k : Int) - 1 = (q : Int) := ⟨k - 1, by omega⟩
        obtain ⟨x0, _, _⟩ := unhide HSR q (by omega)
        have HLQ := hide (unhide HLS q (by omega))
        generalize (l.getD q default).t = pt at *
        have t3 := Wb.cell x0 hbl2
        have p1d : decide (0 < k) = true := by simpa using hkp
        have p2 : IntKind.i64.wrap (q : Int) = (q : Int) := wrapSt _ (by omega) (by omega)
        have p3 : (0 : Int) ≤ (q : Int) := by omega
        have p4 : (q : Int) < (l.length : Int) := by omega
        clear x0
        by_cases hpt : ft < pt
        · have HD := hide (state_bad (tm := tm) (vo := vo) hlt (by rw [unhide HEB, unhide HLQ]; simp [inB]; omega))
          refine wp_region_wb (by kernel_rfl) (by kernel_rfl) ?_
          repeat (go_big_quiet_step ((go_at_call 52; exact wb_of (unhide HEn _))))
          refine wpQuiet_nil ?_
          intro _ hw'
          obtain ⟨⟨w1, hb1⟩, rfl⟩ := hw'
          have HBW := hide ((unhide B0).trans (((unhide HB).mono (by omega)).trans (hb1.mono (by omega))))
          clear hb1 r0 r2 t0 t1 t2 t3
          go_wp2_with fail
          go_ret
          exact ⟨ret_bool (unhide HD).symm, unhide HBW⟩
        · have hptd : decide (ft < pt) = false := by rw [decide_eq_false_iff_not]; exact hpt
          have HN := hide ((unhide HGo).next (by rw [unhide HEB, ho, unhide HLQ]; simp [inB]; omega))
          refine wp_region_wb (by kernel_rfl) (by kernel_rfl) ?_
          repeat (go_big_quiet_step ((go_at_call 52; exact wb_of (unhide HEn _))))
          refine wpQuiet_nil ?_
          intro _ hw'
          obtain ⟨⟨w1, hb1⟩, rfl⟩ := hw'
          have HB1 := hide ((unhide HB).trans (hb1.mono (by omega)))
          clear hb1 r0 r2 t0 t1 t2 t3
          go_wp2_with fail
          refine ⟨⟨k + 1, by omega, by go_num, unhide HN, unhide HB1⟩, ?_⟩
          simp [intOf]; omega
    · obtain rfl : k = l.length := by omega
      have HD := hide (state_all (vo := vo) h1 h2 h3 hgo)
      have HBW := hide hbw
      clear hb hbw hgo
      go_wp2_with fail
      go_ret
      exact ⟨ret_bool (unhide HD).symm, unhide HBW⟩
end Go.Proofs.Ytpdjfjapdmopoaa
namespace Go.Proofs.Ytpdjfjapdmopoaa
open Go.ChangeShapes Go.WideShapes Go.ChangeAt Go.RowKit
set_option linter.unusedVariables false
set_option linter.unusedSimpArgs false

theorem stepP_S {s : St} (h : s.l.length ≤ 60) (t : ByteArray) : stepP s t = match stepS s t with
    | some s' => if 60 < s'.l.length then none else some s'
    | none => none := by
  unfold stepP stepS
  split
  · cases hr : (rcOf t).1 with
    | none => rfl
    | some rc =>
      dsimp only
      cases rc with
      | T a b => show some _ = if 60 < s.l.length then none else some _; rw [if_neg (by omega)]
      | C k =>
        simp only [folP, folS]
        split
        · rfl
        · show some _ = if 60 < (s.l.take k.toNat).length then none else some _
          rw [if_neg (by rw [List.length_take]; omega)]
      | E e =>
        simp only [folP, folS]
        split
        · show none = if 60 < (s.l ++ [e]).length then none else some _
          rw [if_pos (by simp; omega)]
        · show some _ = if 60 < (s.l ++ [e]).length then none else some _
          rw [if_neg (by simp; omega)]
  · rfl
theorem stepS_len {s s' : St} {t : ByteArray} (h : s.l.length ≤ 60) (hs : stepS s t = some s') : s'.l.length ≤ 61 := by
  unfold stepS at hs
  split at hs
  · cases hr : (rcOf t).1 with
    | none => rw [hr] at hs; cases hs
    | some rc =>
      rw [hr] at hs
      dsimp only at hs
      cases rc with
      | T a b => cases hs; show s.l.length ≤ 61; omega
      | C k =>
        simp only [folS] at hs
        split at hs
        · cases hs
        · cases hs; show (s.l.take k.toNat).length ≤ 61; rw [List.length_take]; omega
      | E e => cases hs; show (s.l ++ [e]).length ≤ 61; simp; omega
  · cases hs
/-- Between two records. -/
structure FA (w : World) (S : Nat) (l : List ByteArray) (k : Nat) (s : St) (a : Option Addr) (c : Nat) (wx : World) : Prop where
  f : foldAt l k = some s
  x : Blk wx S [.int .i64 s.tm, .int .i64 s.vo, .slice a s.l.length c]
  r : Blk wx w.heap.size [.int .i64 0, .int .i64 0, .slice none 0 0]
  o : OwnE (w.heap.size + 1) wx (.slice a s.l.length c) s.l
  d : ∀ q, (Value.slice a s.l.length c).ownBlock = some q → q ≠ S
  b : Below w.heap.size w wx
theorem FA.below {w wx wy : World} {S : Nat} {l : List ByteArray} {k : Nat} {s : St} {a : Option Addr} {c : Nat} (h : FA w S l k s a c wx) (hb : Below wx.heap.size wx wy) : FA w S l k s a c wy :=
  ⟨h.f, h.x.below hb, h.r.below hb, h.o.below hb, h.d, h.b.trans (hb.mono h.b.size)⟩
/-- The next state, in its box N. -/
def FN (w : World) (S : Nat) (l : List ByteArray) (k : Nat) (s : St) (a : Option Addr) (c : Nat) (t : ByteArray) (N : Nat) (tm' vo' : Int) (a' : Option Addr) (n' c' : Nat) (wx : World) : Prop :=
  FA w S l k s a c wx ∧ (N ≠ S ∧ w.heap.size < N) ∧ Blk wx N [.int .i64 tm', .int .i64 vo', .slice a' n' c'] ∧ ∀ s', stepS s t = some s' → tm' = s'.tm ∧ vo' = s'.vo ∧ n' = s'.l.length ∧ OwnE (w.heap.size + 1) wx (.slice a' n' c') s'.l ∧ ∀ q, (Value.slice a' n' c').ownBlock = some q → q ≠ S
theorem FN_of {w wr wx : World} {S : Nat} {l : List ByteArray} {k : Nat} {s : St} {a : Option Addr} {c : Nat} {t : ByteArray} {N : Nat} {tm' vo' : Int} {a' : Option Addr} {n' c' : Nat} (h : FA w S l k s a c wr) (hb : Below wr.heap.size wr wx) (hN : wr.heap.size ≤ N) (hX : Blk wx N [.int .i64 tm', .int .i64 vo', .slice a' n' c'])
    (hs : ∀ s', stepS s t = some s' → tm' = s'.tm ∧ vo' = s'.vo ∧ n' = s'.l.length ∧ OwnE (w.heap.size + 1) wx (.slice a' n' c') s'.l ∧ ∀ q, (Value.slice a' n' c').ownBlock = some q → (Value.slice a s.l.length c).ownBlock = some q ∨ wr.heap.size ≤ q) : FN w S l k s a c t N tm' vo' a' n' c' wx := by
  have hx := h.x.1
  have hr := h.r.1
  refine ⟨h.below hb, ⟨by omega, by omega⟩, hX, fun s' he => ?_⟩
  obtain ⟨e1, e2, e3, e4, e5⟩ := hs s' he
  exact ⟨e1, e2, e3, e4, fun q hq => (e5 q hq).elim (h.d q) (fun h' => by omega)⟩
set_option maxRecDepth 100000 in
set_option maxHeartbeats 8000000 in
theorem l05FoldAll_any (v : Value) (l : List ByteArray) (w : World) (h : Strs w v l) (hl : l.length ≤ 1048576) (hz : ∀ i, (l.getD i ByteArray.empty).size ≤ 65536) :
    Calls Try.prog 20 #[v] w fun e w' => ∃ tm' vo' a' n' c', e = .returned (.tuple #[.agg #[.int .i64 tm', .int .i64 vo', .slice a' n' c'], .bool (foldS l).isSome]) ∧ (∀ s', foldS l = some s' → tm' = s'.tm ∧ vo' = s'.vo ∧ n' = s'.l.length ∧ OwnE (w.heap.size + 1) w' (.slice a' n' c') s'.l) ∧ Below w.heap.size w w' := by
  obtain ⟨a0, cap, rfl, hm, hc⟩ := h
  have HC := hide hc
  have HZ := hide hz
  clear hc hz
  go_enter Try.func20, Try.ntmps20
  go_upto_region 3 with fail
  have F0 : FA w (w.heap.size + 1 + 1) l 0 ⟨0, -1, []⟩ (some ⟨w.heap.size + 1, 0, none⟩) 0 (((w.alloc (.cells #[.int .i64 0, .int .i64 0, .slice none 0 0] 26)).alloc (.cells #[] 78)).alloc (.cells #[.int .i64 0, .int .i64 (-1), .slice (some ⟨w.heap.size + 1, 0, none⟩) 0 0] 26)) := by
    refine ⟨rfl, Blk.new _ #[.int .i64 0, .int .i64 (-1), .slice (some ⟨w.heap.size + 1, 0, none⟩) 0 0] 26 (w.heap.size + 1 + 1) (by simp), ((Blk.new w #[.int .i64 0, .int .i64 0, .slice none 0 0] 26 w.heap.size rfl).alloc _).alloc _, ?_, ?_, (((Below.refl w.heap.size w).alloc (Nat.le_refl _) _).alloc (by simp) _).alloc (by simp; omega) _⟩
    · exact (own_emptyE (w.alloc (.cells #[.int .i64 0, .int .i64 0, .slice none 0 0] 26)) (w.heap.size + 1) (w.heap.size + 1) (by simp) (by simp)).alloc _
    · intro q hq
      cases hq
      show w.heap.size + 1 ≠ w.heap.size + 1 + 1
      omega
  have HF0 := hide F0
  clear F0
  generalize hS : w.heap.size + 1 + 1 = S at *
  generalize (((w.alloc (.cells #[.int .i64 0, .int .i64 0, .slice none 0 0] 26)).alloc (.cells #[] 78)).alloc (.cells #[.int .i64 0, .int .i64 (-1), .slice (some ⟨w.heap.size + 1, 0, none⟩) 0 0] 26)) = w0 at *
  go_loopw [5] (fun i wr => ∃ (k : Nat) (s : St) (a : Option Addr) (c : Nat), k ≤ l.length ∧ i = .int .i64 k ∧ FA w S l k s a c wr) (fun i _ => l.length - (intOf i).toNat)
  case atStart => exact ⟨0, _, _, _, Nat.zero_le _, rfl, unhide HF0⟩
  case round =>
    obtain ⟨k, s, a, c, hk, rfl, hF⟩ := hrel
    by_cases hlt : k < l.length
    · obtain ⟨b, off, rfl, hbl, hsrc⟩ : ∃ b off, a0 = some ⟨b, off, none⟩ ∧ b < w.heap.size ∧ ∀ i, i < l.length → w.cell? ⟨b, off + i, none⟩ = some (.string (l.getD i ByteArray.empty)) := by
        rcases unhide HC with h0 | h1
        · omega
        · exact h1
      have cT := (hF.b.cell (p := ⟨b, off + k, none⟩) hbl).trans (hsrc k hlt)
      have hk0 : (0 : Int) ≤ (k : Int) := by omega
      have hk1 : (k : Int) < (l.length : Int) := by omega
      have h60 := (foldAt_ok l k s hF.f).1
      have hBw : w.heap.size + 1 ≤ wr.heap.size := hF.r.1
      have HFD := hide (fun wx (hx : Below wr.heap.size wr wx) => l05Fold_any (w.heap.size + 1) s.tm s.vo s.l a c (l.getD k ByteArray.empty) wx (hF.o.below hx) (Nat.le_trans hBw hx.size) (unhide HZ k) h60)
      have HNX2 : Hid (foldAt l (k + 1) = stepP s (l.getD k ByteArray.empty)) := hide (by show (match foldAt l k with | some s => stepP s (l.getD k ByteArray.empty) | none => none) = _; rw [hF.f])
      have HPS := hide (stepP_S h60 (l.getD k ByteArray.empty))
      have HSL := hide (fun s' => stepS_len (s' := s') (t := l.getD k ByteArray.empty) h60)
      have HFF := hide hF
      generalize l.getD k ByteArray.empty = t at *
      have y0 := hF.x.cell 0 rfl
      have y1 := hF.x.cell 1 rfl
      have y2 := hF.x.cell 2 rfl
      have HFA : Hid (Calls _ _ _ (World.drew (wr.alloc (.cells #[.int .i64 0, .int .i64 0, .slice none 0 0] 26))) _) := hide (unhide HFD _ (((Below.refl _ wr).alloc (Nat.le_refl _) (.cells #[.int .i64 0, .int .i64 0, .slice none 0 0] 26)).drew))
      have HFB : Hid (Calls _ _ _ (World.drew wr) _) := hide (unhide HFD _ ((Below.refl _ wr).drew))
      have HBN := hide ((Blk.new wr #[.int .i64 0, .int .i64 0, .slice none 0 0] 26 wr.heap.size rfl).below ((Below.refl _ _).drew))
      have AZ := (Below.refl wr.heap.size wr).alloc (Nat.le_refl _) (.cells #[.int .i64 0, .int .i64 0, .slice none 0 0] 26)
      have cTa := (AZ.cell (p := ⟨b, off + k, none⟩) (Nat.lt_of_lt_of_le hbl hF.b.size)).trans cT
      have y0a := (hF.x.below AZ).cell 0 rfl
      have y1a := (hF.x.below AZ).cell 1 rfl
      have y2a := (hF.x.below AZ).cell 2 rfl
      clear AZ
      obtain ⟨st, sv, sl⟩ := s
      dsimp only at *
      clear hF hsrc HFD
      have HEB : Hid (∀ (w2 : World) (tm' vo' : Int) (a' : Option Addr) (n' c' : Nat), Below wr.drew.heap.size wr.drew w2 → (∀ s', stepS ⟨st, sv, sl⟩ t = some s' → tm' = s'.tm ∧ vo' = s'.vo ∧ n' = s'.l.length ∧ OwnE (w.heap.size + 1) w2 (.slice a' n' c') s'.l ∧ ∀ q, (Value.slice a' n' c').ownBlock = some q → (Value.slice a sl.length c).ownBlock = some q ∨ wr.drew.heap.size ≤ q) → FN w S l k ⟨st, sv, sl⟩ a c t w2.heap.size tm' vo' a' n' c' (w2.alloc (.cells #[.int .i64 tm', .int .i64 vo', .slice a' n' c'] 26))) := hide (fun w2 tm' vo' a' n' c' hb hst => by
        have hb1 : Below wr.heap.size wr w2 := ((Below.refl _ wr).drew).trans hb
        have hb2 := hb1.alloc hb1.size (.cells #[.int .i64 tm', .int .i64 vo', .slice a' n' c'] 26)
        refine FN_of (unhide HFF) hb2 hb1.size (Blk.new w2 #[.int .i64 tm', .int .i64 vo', .slice a' n' c'] 26 w2.heap.size rfl) (fun s' he => ?_)
        obtain ⟨e1, e2, e3, e4, e5⟩ := hst s' he
        exact ⟨e1, e2, e3, e4.below ((Below.refl _ w2).alloc (Nat.le_refl _) _), e5⟩)
      have HEA : Hid (∀ (w2 : World) (tm' vo' : Int) (a' : Option Addr) (n' c' : Nat), Below (wr.alloc (.cells #[.int .i64 0, .int .i64 0, .slice none 0 0] 26)).drew.heap.size (wr.alloc (.cells #[.int .i64 0, .int .i64 0, .slice none 0 0] 26)).drew w2 → (∀ s', stepS ⟨st, sv, sl⟩ t = some s' → tm' = s'.tm ∧ vo' = s'.vo ∧ n' = s'.l.length ∧ OwnE (w.heap.size + 1) w2 (.slice a' n' c') s'.l ∧ ∀ q, (Value.slice a' n' c').ownBlock = some q → (Value.slice a sl.length c).ownBlock = some q ∨ (wr.alloc (.cells #[.int .i64 0, .int .i64 0, .slice none 0 0] 26)).drew.heap.size ≤ q) → FN w S l k ⟨st, sv, sl⟩ a c t wr.heap.size tm' vo' a' n' c' (((w2.setCell ⟨wr.heap.size, 0, none⟩ (.int .i64 tm')).setCell ⟨wr.heap.size, 1, none⟩ (.int .i64 vo')).setCell ⟨wr.heap.size, 2, none⟩ (.slice a' n' c'))) := hide (fun w2 tm' vo' a' n' c' hb hst => by
        have hzz : (wr.alloc (.cells #[.int .i64 0, .int .i64 0, .slice none 0 0] 26)).drew.heap.size = wr.heap.size + 1 := World.size_alloc _ _
        have hb1 : Below wr.heap.size wr w2 := (((Below.refl _ wr).alloc (Nat.le_refl _) (.cells #[.int .i64 0, .int .i64 0, .slice none 0 0] 26)).drew).trans (hb.mono (by rw [hzz]; exact Nat.le_succ _))
        have hs := (((Touch.refl (fun q => q = wr.heap.size) w2).setCell ⟨wr.heap.size, 0, none⟩ (.int .i64 tm') (fun _ => rfl)).setCell ⟨wr.heap.size, 1, none⟩ (.int .i64 vo') (fun _ => rfl)).setCell ⟨wr.heap.size, 2, none⟩ (.slice a' n' c') (fun _ => rfl)
        have qB := (unhide HBN).below hb
        refine FN_of (unhide HFF) (hb1.trans (hs.below hb1.size (fun q hq e => by omega))) (Nat.le_refl _) (((qB.set 0 (.int .i64 tm') (by simp)).set 1 (.int .i64 vo') (by simp)).set 2 (.slice a' n' c') (by simp)) (fun s' he => ?_)
        obtain ⟨e1, e2, e3, e4, e5⟩ := hst s' he
        refine ⟨e1, e2, e3, OwnE.kept e4 hs (fun q hq e => ?_), fun q hq => (e5 q hq).imp id (fun h => by rw [hzz] at h; omega)⟩
        rcases e5 q hq with h | h
        · have := (World.ownsRow.lt (unhide HFF).o q h).2
          omega
        · rw [hzz] at h; omega)
      go_upto_region 5 with fail
      go_cut [6, 7] (fun p q wx => ∃ N tm' vo' a' n' c', p = .pointer (some ⟨N, 0, none⟩) ∧ q = .bool (stepS ⟨st, sv, sl⟩ t).isSome ∧ FN w S l k ⟨st, sv, sl⟩ a c t N tm' vo' a' n' c' wx)
      case first =>
        go_wp2_with fail
        go_region_law (first
          | (go_simp; guard_target =~ Calls _ _ _ (World.drew (World.alloc _ _)) _; go_at_call 34; refine (unhide HFA).mono ?_; rintro e w2 ⟨tm', vo', a', n', c', rfl, hst, hb2⟩; (have qB := (unhide HBN).below hb2); (have q0 := qB.cell 0 rfl); (have q1 := qB.cell 1 rfl); (have q2 := qB.cell 2 rfl); (have e0 := qB.fro 0); (have e1 := qB.fro 1); (have e2 := qB.fro 2); go_simp)
          | (go_simp; go_at_call 34; refine (unhide HFB).mono ?_; rintro e w2 ⟨tm', vo', a', n', c', rfl, hst, hb2⟩; go_simp))
        all_goals first
          | (have K := hide (unhide HEB _ _ _ _ _ _ hb2 hst); clear hb2 hst; go_wp2_with fail; go_meet; exact ⟨_, _, _, _, _, _, rfl, rfl, unhide K⟩)
          | (have K := hide (unhide HEA _ _ _ _ _ _ hb2 hst); clear hb2 hst; go_wp2_with fail; go_meet; exact ⟨_, _, _, _, _, _, rfl, rfl, unhide K⟩)
      case rest =>
        obtain ⟨N, tm', vo', a', n', c', rfl, rfl, hFN⟩ := hcut
        obtain ⟨wq, hwq⟩ : ∃ wq, wq = wc := ⟨_, rfl⟩
        subst hwq
        obtain ⟨hFq, ⟨hNS, hNw⟩, hNX, hNs⟩ := hFN
        have HFQ := hide hFq
        have HNX := hide hNX
        clear HEA HEB HFA HFB HBN HFF y0 y1 y2 y0a y1a y2a cT cTa
        have HRR : Hid (foldAt l (k + 1) = none → (foldS l).isSome = false ∧ foldS l = none) := hide (fun h => by
          have q := foldAt_none l (k + 1) h (l.length - (k + 1))
          rw [show k + 1 + (l.length - (k + 1)) = l.length by omega] at q
          have e : foldS l = none := by unfold foldS; rw [q]
          rw [e]
          exact ⟨rfl, rfl⟩)
        have y0 := hFq.x.cell 0 rfl
        have y1 := hFq.x.cell 1 rfl
        have y2 := hFq.x.cell 2 rfl
        have r0 := hFq.r.cell 0 rfl
        have r1 := hFq.r.cell 1 rfl
        have r2 := hFq.r.cell 2 rfl
        have f0 := hFq.r.fro 0
        have f1 := hFq.r.fro 1
        have f2 := hFq.r.fro 2
        have W1 := hide (fold_ret (B := w.heap.size + 1) (tm := st) (vo := sv) (a := a) (n := sl.length) (c := c) (l := sl) hFq.r hFq.o (by omega))
        have K9 := hide (hFq.b.trans (unhide W1).2.2)
        have u0 := hNX.cell 0 rfl
        have u1 := hNX.cell 1 rfl
        have u2 := hNX.cell 2 rfl
        clear hFq hNX
        cases hss : stepS ⟨st, sv, sl⟩ t with
        | none =>
          have HN := hide (unhide HRR (by rw [unhide HNX2, unhide HPS, hss]))
          rw [show (none : Option St).isSome = false from rfl]
          clear hss hNs
          go_wp2_with fail
          generalize ((wq.setCell ⟨w.heap.size, 0, none⟩ (.int .i64 st)).setCell ⟨w.heap.size, 1, none⟩ (.int .i64 sv)).setCell ⟨w.heap.size, 2, none⟩ (.slice a sl.length c) = wf at *
          have z0 := (unhide W1).1.cell 0 rfl
          have z1 := (unhide W1).1.cell 1 rfl
          have z2 := (unhide W1).1.cell 2 rfl
          refine bodyPost_ret (v := .tuple #[.agg #[.int .i64 st, .int .i64 sv, .slice a sl.length c], .bool false]) (by simp [results, Try.results20, go_sem, z0, z1, z2]) rfl ?_
          rw [(unhide HN).1]
          exact ⟨_, _, _, _, _, rfl, fun s' h => (by rw [(unhide HN).2] at h; cases h), unhide K9⟩
        | some s' =>
          obtain ⟨rfl, rfl, rfl, hO', hd'⟩ := hNs s' hss
          have h61 := unhide HSL s' hss
          rw [show (some s').isSome = true from rfl]
          by_cases hgt : 60 < s'.l.length
          · have HN := hide (unhide HRR (by rw [unhide HNX2, unhide HPS, hss]; exact if_pos hgt))
            have hgi : (60 : Int) < (s'.l.length : Int) := by omega
            clear hss hNs hO' hd'
            go_wp2_with fail
            generalize ((wq.setCell ⟨w.heap.size, 0, none⟩ (.int .i64 st)).setCell ⟨w.heap.size, 1, none⟩ (.int .i64 sv)).setCell ⟨w.heap.size, 2, none⟩ (.slice a sl.length c) = wf at *
            have z0 := (unhide W1).1.cell 0 rfl
            have z1 := (unhide W1).1.cell 1 rfl
            have z2 := (unhide W1).1.cell 2 rfl
            refine bodyPost_ret (v := .tuple #[.agg #[.int .i64 st, .int .i64 sv, .slice a sl.length c], .bool false]) (by simp [results, Try.results20, go_sem, z0, z1, z2]) rfl ?_
            rw [(unhide HN).1]
            exact ⟨_, _, _, _, _, rfl, fun s' h => (by rw [(unhide HN).2] at h; cases h), unhide K9⟩
          · have hgi : ¬ (60 : Int) < (s'.l.length : Int) := by omega
            have hg0 := (unhide HFQ).x.fro 0
            have hg1 := (unhide HFQ).x.fro 1
            have hg2 := (unhide HFQ).x.fro 2
            have hs := (((Touch.refl (fun q => q = S) wq).setCell ⟨S, 0, none⟩ (.int .i64 s'.tm) (fun _ => rfl)).setCell ⟨S, 1, none⟩ (.int .i64 s'.vo) (fun _ => rfl)).setCell ⟨S, 2, none⟩ (.slice a' s'.l.length c') (fun _ => rfl)
            have hwS : w.heap.size < S := by omega
            have NF : Hid (FA w S l (k + 1) s' a' c' (((wq.setCell ⟨S, 0, none⟩ (.int .i64 s'.tm)).setCell ⟨S, 1, none⟩ (.int .i64 s'.vo)).setCell ⟨S, 2, none⟩ (.slice a' s'.l.length c'))) := hide ⟨by rw [unhide HNX2, unhide HPS, hss]; exact if_neg hgt, (((unhide HFQ).x.set 0 (.int .i64 s'.tm) (by simp)).set 1 (.int .i64 s'.vo) (by simp)).set 2 (.slice a' s'.l.length c') (by simp), (unhide HFQ).r.kept hs (fun e => by omega), OwnE.kept hO' hs (fun q hq e => hd' q hq e), hd', (unhide HFQ).b.trans (hs.below (unhide HFQ).b.size (fun q hq e => by omega))⟩
            clear hss hNs hO' hd' hs W1 K9
            obtain ⟨st', sv', sl'⟩ := s'
            dsimp only at *
            go_wp2_with fail
            refine ⟨⟨k + 1, _, _, _, by omega, by go_num, unhide NF⟩, ?_⟩
            simp [intOf]; omega
    · obtain rfl : k = l.length := by omega
      have hok := foldAt_ok l _ s hF.f
      have HOKC := hide (specStateOK_any s.tm s.vo _ s.l wr.drew (hF.o.below ((Below.refl _ wr).drew)).ens hok.2)
      have HFS : Hid (foldS l = if stateB s.tm s.vo s.l then some s else none) := hide (by unfold foldS; rw [hF.f])
      have HFF := hide hF
      have y0 := hF.x.cell 0 rfl
      have y1 := hF.x.cell 1 rfl
      have y2 := hF.x.cell 2 rfl
      have HY := hide (fun w2 (hb : Below wr.drew.heap.size wr.drew w2) => (hF.below ((Below.refl _ wr).drew)).below hb)
      obtain ⟨st, sv, sl⟩ := s
      dsimp only at *
      generalize stateB st sv sl = sb at *
      clear hF
      go_upto_region 9 with fail
      go_wp2_with fail
      go_region_law ((go_simp; go_at_call 35; refine (unhide HOKC).mono ?_; rintro e w2 ⟨rfl, hb2⟩; (have F2 := unhide HY w2 hb2); (have y0b := F2.x.cell 0 rfl); (have y1b := F2.x.cell 1 rfl); (have y2b := F2.x.cell 2 rfl); (have r0 := F2.r.cell 0 rfl); (have r1 := F2.r.cell 1 rfl); (have r2 := F2.r.cell 2 rfl); (have f0 := F2.r.fro 0); (have f1 := F2.r.fro 1); (have f2 := F2.r.fro 2); go_simp))
      all_goals
        have W1 := hide (fold_ret (B := w.heap.size + 1) (tm := st) (vo := sv) (a := a) (n := sl.length) (c := c) (l := sl) F2.r F2.o (by omega))
        have K9 := hide (F2.b.trans (unhide W1).2.2)
        clear y0b y1b y2b r0 r1 r2 f0 f1 f2 F2 hb2
        go_wp2_with fail
        generalize ((w2.setCell ⟨w.heap.size, 0, none⟩ (.int .i64 st)).setCell ⟨w.heap.size, 1, none⟩ (.int .i64 sv)).setCell ⟨w.heap.size, 2, none⟩ (.slice a sl.length c) = wf at *
        have z0 := (unhide W1).1.cell 0 rfl
        have z1 := (unhide W1).1.cell 1 rfl
        have z2 := (unhide W1).1.cell 2 rfl
        refine bodyPost_ret (v := .tuple #[.agg #[.int .i64 st, .int .i64 sv, .slice a sl.length c], .bool sb]) (by simp [results, Try.results20, go_sem, z0, z1, z2]) rfl ?_
        rw [unhide HFS]
        cases sb with
        | true => exact ⟨_, _, _, _, _, rfl, fun s' h => (by cases h; exact ⟨rfl, rfl, rfl, (unhide W1).2.1⟩), unhide K9⟩
        | false => exact ⟨_, _, _, _, _, rfl, fun s' h => (by cases h), unhide K9⟩
end Go.Proofs.Ytpdjfjapdmopoaa
namespace Go.Proofs.Ytpdjfjapdmopoaa
open Go.ChangeShapes Go.WideShapes Go.ChangeAt Go.RowKit
set_option linter.unusedVariables false
set_option linter.unusedSimpArgs false

theorem OwnE.down1 {B B' : Nat} {w : World} {v : Value} {l : List En} (h : OwnE B w v l) (hB : B' ≤ B) : OwnE B' w v l := World.ownsRow_monoE h hB
set_option maxRecDepth 100000 in
set_option maxHeartbeats 4000000 in
theorem specFold_any (v : Value) (l : List ByteArray) (w : World) (h : Strs w v l) (hl : l.length ≤ 1048576) (hz : ∀ i, (l.getD i ByteArray.empty).size ≤ 1048576) :
    Calls Try.prog 6 #[v] w fun e w' => ∃ a c, e = .returned (.tuple #[.agg #[.int .i64 (foldOut l).1.tm, .int .i64 (foldOut l).1.vo, .slice a (foldOut l).1.l.length c], .int .i64 (foldOut l).2]) ∧ OwnE (w.heap.size + 1) w' (.slice a (foldOut l).1.l.length c) (foldOut l).1.l ∧ Below w.heap.size w w' := by
  have HSV := hide h
  obtain ⟨a, cap, rfl, hm, hc⟩ := h
  have HC := hide hc
  have HZ := hide hz
  clear hc hz
  have K0 := hide ((Below.refl w.heap.size w).alloc (Nat.le_refl _) (.cells #[.int .i64 0, .int .i64 0, .slice none 0 0] 26))
  have R0 := hide (Blk.new w #[.int .i64 0, .int .i64 0, .slice none 0 0] 26 w.heap.size rfl)
  by_cases h4 : 4096 < l.length
  · have HD := hide (show foldOut l = (st0, 2) by unfold foldOut; rw [if_pos h4])
    have h4i : (4096 : Int) < (l.length : Int) := by omega
    go_enter Try.func6, Try.ntmps6
    go_upto_region 2 with fail
    generalize w.alloc (.cells #[.int .i64 0, .int .i64 0, .slice none 0 0] 26) = w0 at *
    have r0 := (unhide R0).cell 0 rfl
    have r1 := (unhide R0).cell 1 rfl
    have r2 := (unhide R0).cell 2 rfl
    have f0 := (unhide R0).fro 0
    have f1 := (unhide R0).fro 1
    have f2 := (unhide R0).fro 2
    have W1 := hide (fold_ret (B := w.heap.size + 1) (tm := 0) (vo := 0) (a := none) (n := 0) (c := 0) (l := []) (unhide R0) (World.ownsRow_nil _ _ 78 3) (by omega))
    have K9 := hide ((unhide K0).trans (unhide W1).2.2)
    go_wp2_with fail
    generalize ((w0.setCell ⟨w.heap.size, 0, none⟩ (.int .i64 0)).setCell ⟨w.heap.size, 1, none⟩ (.int .i64 0)).setCell ⟨w.heap.size, 2, none⟩ (.slice none 0 0) = wf at *
    have z0 := (unhide W1).1.cell 0 rfl
    have z1 := (unhide W1).1.cell 1 rfl
    have z2 := (unhide W1).1.cell 2 rfl
    refine bodyPost_ret (v := .tuple #[.agg #[.int .i64 0, .int .i64 0, .slice none 0 0], .int .i64 2]) (by simp [results, Try.results6, go_sem, z0, z1, z2]) rfl ?_
    rw [unhide HD]
    exact ⟨none, 0, rfl, (unhide W1).2.1, unhide K9⟩
  have h4i : ¬ (4096 : Int) < (l.length : Int) := by omega
  go_enter Try.func6, Try.ntmps6
  go_wp2_with fail
  generalize w.alloc (.cells #[.int .i64 0, .int .i64 0, .slice none 0 0] 26) = w0 at *
  go_loop [4] (fun i => ∃ k : Nat, k ≤ l.length ∧ i = .int .i64 k ∧ ∀ j, j < k → (l.getD j ByteArray.empty).size ≤ 110) (fun i => l.length - (intOf i).toNat)
  case atStart => exact ⟨0, Nat.zero_le _, rfl, fun j hj => by omega⟩
  case round =>
    obtain ⟨k, hk, rfl, hgo⟩ := hrel
    by_cases hlt : k < l.length
    · obtain ⟨b, off, rfl, hbl, hsrc⟩ : ∃ b off, a = some ⟨b, off, none⟩ ∧ b < w.heap.size ∧ ∀ i, i < l.length → w.cell? ⟨b, off + i, none⟩ = some (.string (l.getD i ByteArray.empty)) := by
        rcases unhide HC with h0 | h1
        · omega
        · exact h1
      have c0 := ((unhide K0).cell (p := ⟨b, off + k, none⟩) hbl).trans (hsrc k hlt)
      have hk0 : (0 : Int) ≤ (k : Int) := by omega
      have hk1 : (k : Int) < (l.length : Int) := by omega
      have hzk := unhide HZ k
      have HGO := hide hgo
      have HSB := hide (short_bad (l := l) (k := k) hlt)
      clear hsrc hgo
      generalize htk : l.getD k ByteArray.empty = t at *
      have HTK := hide htk
      clear htk
      by_cases ht : 110 < t.size
      · have HD := hide (show foldOut l = (st0, 4) by unfold foldOut; rw [if_neg h4, if_pos (unhide HSB ht)])
        have hti : (110 : Int) < (t.size : Int) := by omega
        go_upto_region 7 with fail
        clear c0
        have r0 := (unhide R0).cell 0 rfl
        have r1 := (unhide R0).cell 1 rfl
        have r2 := (unhide R0).cell 2 rfl
        have f0 := (unhide R0).fro 0
        have f1 := (unhide R0).fro 1
        have f2 := (unhide R0).fro 2
        have W1 := hide (fold_ret (B := w.heap.size + 1) (tm := 0) (vo := 0) (a := none) (n := 0) (c := 0) (l := []) (unhide R0) (World.ownsRow_nil _ _ 78 3) (by omega))
        have K9 := hide ((unhide K0).trans (unhide W1).2.2)
        go_wp2_with fail
        generalize ((w0.setCell ⟨w.heap.size, 0, none⟩ (.int .i64 0)).setCell ⟨w.heap.size, 1, none⟩ (.int .i64 0)).setCell ⟨w.heap.size, 2, none⟩ (.slice none 0 0) = wf at *
        have z0 := (unhide W1).1.cell 0 rfl
        have z1 := (unhide W1).1.cell 1 rfl
        have z2 := (unhide W1).1.cell 2 rfl
        refine bodyPost_ret (v := .tuple #[.agg #[.int .i64 0, .int .i64 0, .slice none 0 0], .int .i64 4]) (by simp [results, Try.results6, go_sem, z0, z1, z2]) rfl ?_
        rw [unhide HD]
        exact ⟨none, 0, rfl, (unhide W1).2.1, unhide K9⟩
      · have hti : ¬ (110 : Int) < (t.size : Int) := by omega
        go_wp2_with fail
        refine ⟨⟨k + 1, by omega, by go_num, fun j hj => ?_⟩, ?_⟩
        · by_cases hjk : j = k
          · subst hjk; rw [unhide HTK]; omega
          · exact unhide HGO j (by omega)
        · simp [intOf]; omega
    · obtain rfl : k = l.length := by omega
      have HSA := hide (show allShort l = true from short_all hgo)
      have HDO : Hid (foldOut l = match foldS l with | some s => (s, 0) | none => (st0, 3)) := hide (by unfold foldOut; rw [if_neg h4, if_neg (by rw [unhide HSA]; simp)]; rfl)
      have hz2 : ∀ i, (l.getD i ByteArray.empty).size ≤ 65536 := fun i => by
        by_cases hi : i < l.length
        · have := hgo i hi; omega
        · rw [List.getD_eq_getElem?_getD, List.getElem?_eq_none (by omega)]; simp
      have HFA := hide (l05FoldAll_any _ l w0 ((unhide HSV).below (unhide K0)) hl hz2)
      have hB0 : w.heap.size + 1 ≤ w0.heap.size := (unhide R0).1
      clear hgo hz2 HSV
      go_wp2_with fail
      refine (unhide HFA).mono ?_
      rintro e w2 ⟨tm', vo', a', n', c', rfl, hst, hb2⟩
      have AN := (Below.refl w2.heap.size w2).alloc (Nat.le_refl _) (.cells #[.int .i64 tm', .int .i64 vo', .slice a' n' c'] 26)
      have K2 := hide (((unhide K0).trans (hb2.mono (unhide K0).size)).trans (AN.mono (Nat.le_trans (unhide K0).size hb2.size)))
      have R2 := hide (((unhide R0).below hb2).below AN)
      have N2 := hide (Blk.new w2 #[.int .i64 tm', .int .i64 vo', .slice a' n' c'] 26 w2.heap.size rfl)
      have HST := hide (fun s' (hs : foldS l = some s') => by
        obtain ⟨e1, e2, e3, e4⟩ := hst s' hs
        exact And.intro e1 (And.intro e2 (And.intro e3 (e4.below AN))))
      clear AN hst hb2 HFA
      cases hfs : foldS l with
      | none =>
        have HD := hide (show foldOut l = (st0, 3) by rw [unhide HDO, hfs])
        rw [show (none : Option St).isSome = false from rfl]
        clear hfs HST
        go_upto_region 10 with fail
        generalize w2.alloc (.cells #[.int .i64 tm', .int .i64 vo', .slice a' n' c'] 26) = w3 at *
        have r0 := (unhide R2).cell 0 rfl
        have r1 := (unhide R2).cell 1 rfl
        have r2 := (unhide R2).cell 2 rfl
        have f0 := (unhide R2).fro 0
        have f1 := (unhide R2).fro 1
        have f2 := (unhide R2).fro 2
        have W1 := hide (fold_ret (B := w.heap.size + 1) (tm := 0) (vo := 0) (a := none) (n := 0) (c := 0) (l := []) (unhide R2) (World.ownsRow_nil _ _ 78 3) (by omega))
        have K9 := hide ((unhide K2).trans (unhide W1).2.2)
        go_wp2_with fail
        generalize ((w3.setCell ⟨w.heap.size, 0, none⟩ (.int .i64 0)).setCell ⟨w.heap.size, 1, none⟩ (.int .i64 0)).setCell ⟨w.heap.size, 2, none⟩ (.slice none 0 0) = wf at *
        have z0 := (unhide W1).1.cell 0 rfl
        have z1 := (unhide W1).1.cell 1 rfl
        have z2 := (unhide W1).1.cell 2 rfl
        refine bodyPost_ret (v := .tuple #[.agg #[.int .i64 0, .int .i64 0, .slice none 0 0], .int .i64 3]) (by simp [results, Try.results6, go_sem, z0, z1, z2]) rfl ?_
        rw [unhide HD]
        exact ⟨none, 0, rfl, (unhide W1).2.1, unhide K9⟩
      | some s' =>
        have HD := hide (show foldOut l = (s', 0) by rw [unhide HDO, hfs])
        obtain ⟨rfl, rfl, rfl, hO⟩ := unhide HST s' hfs
        have HO := hide (hO.down1 (Nat.le_trans hB0 (Nat.le_succ _)))
        rw [show (some s').isSome = true from rfl]
        clear hfs HST hO
        go_upto_region 11 with fail
        generalize w2.alloc (.cells #[.int .i64 s'.tm, .int .i64 s'.vo, .slice a' s'.l.length c'] 26) = w3 at *
        have n0 := (unhide N2).cell 0 rfl
        have n1 := (unhide N2).cell 1 rfl
        have n2 := (unhide N2).cell 2 rfl
        have r0 := (unhide R2).cell 0 rfl
        have r1 := (unhide R2).cell 1 rfl
        have r2 := (unhide R2).cell 2 rfl
        have f0 := (unhide R2).fro 0
        have f1 := (unhide R2).fro 1
        have f2 := (unhide R2).fro 2
        have W1 := hide (fold_ret (B := w.heap.size + 1) (tm := s'.tm) (vo := s'.vo) (unhide R2) (unhide HO) (by omega))
        have K9 := hide ((unhide K2).trans (unhide W1).2.2)
        go_wp2_with fail
        generalize ((w3.setCell ⟨w.heap.size, 0, none⟩ (.int .i64 s'.tm)).setCell ⟨w.heap.size, 1, none⟩ (.int .i64 s'.vo)).setCell ⟨w.heap.size, 2, none⟩ (.slice a' s'.l.length c') = wf at *
        have z0 := (unhide W1).1.cell 0 rfl
        have z1 := (unhide W1).1.cell 1 rfl
        have z2 := (unhide W1).1.cell 2 rfl
        refine bodyPost_ret (v := .tuple #[.agg #[.int .i64 s'.tm, .int .i64 s'.vo, .slice a' s'.l.length c'], .int .i64 0]) (by simp [results, Try.results6, go_sem, z0, z1, z2]) rfl ?_
        rw [unhide HD]
        exact ⟨a', c', rfl, (unhide W1).2.1, unhide K9⟩
end Go.Proofs.Ytpdjfjapdmopoaa
