/- impl.NewNode, spec.NewNode, walked. (Written by py/nodw.py.) -/
import Derived.Test.YtafbdjcoimopfaaNodN
import Derived.Test.YtafbdjcoimopfaaNodI
namespace Go.Proofs.Ytafbdjcoimopfaa
open Go.ChangeShapes Go.WideShapes Go.ChangeAt Go.RowKit Go.Deep
set_option linter.unusedVariables false

/-- A node, as data. -/
structure NoD where
  id : Int
  tm : Int
  vo : Int
  ro : Int
  cm : Int
  el : Int
  wt : Int
  up : Bool
  lg : List En
  st : List Int
  vs : List Int
  nx : List Int
  mt : List Int
def zeroNo : NoD := ⟨0, 0, 0, 0, 0, 0, 0, false, [], [], [], [], []⟩
/-- What NewNode tells. -/
def nnOut (id : Int) (ms : List Int) : NoD × Int := if 4096 < ms.length then (zeroNo, 2) else if inB id 0 6 && decide (mFault ms = 0) then (⟨id, 0, -1, 0, 0, 0, 5 + id, true, [], ms, [], List.replicate 7 1, List.replicate 7 0⟩, 0) else (zeroNo, 1)
/-- A node, the call's own, and a code come out. -/
def NAns (B : Nat) (d : NoD) (code : Int) (w : World) (e : Ending) (w' : World) : Prop :=
  ∃ la lc sa sc va vc na nc ma mc, e = .returned (.tuple #[.agg #[.int .i64 d.id, .int .i64 d.tm, .int .i64 d.vo, .slice la d.lg.length lc, .slice sa d.st.length sc, .int .i64 d.ro, .slice va d.vs.length vc, .slice na d.nx.length nc, .slice ma d.mt.length mc, .int .i64 d.cm, .int .i64 d.el, .int .i64 d.wt, .bool d.up], .int .i64 code]) ∧ NoO B w' (.slice la d.lg.length lc) (.slice sa d.st.length sc) (.slice va d.vs.length vc) (.slice na d.nx.length nc) (.slice ma d.mt.length mc) d.lg d.st d.vs d.nx d.mt ∧ Below w.heap.size w w'
theorem noO_zero (B : Nat) (w : World) : NoO B w (.slice none 0 0) (.slice none 0 0) (.slice none 0 0) (.slice none 0 0) (.slice none 0 0) [] [] [] [] [] := by
  have nn : ∀ v : Value, Apart (.slice none 0 0) v := fun v k h1 _ => by cases h1
  exact ⟨⟨rfl, .inl ⟨rfl, rfl⟩⟩, ⟨rfl, .inl ⟨rfl, rfl⟩⟩, ⟨rfl, .inl ⟨rfl, rfl⟩⟩, ⟨rfl, .inl ⟨rfl, rfl⟩⟩, ⟨rfl, .inl ⟨rfl, rfl⟩⟩, by
    simp only [List.pairwise_cons, List.mem_cons, List.not_mem_nil, or_false, or_self, forall_eq, List.Pairwise.nil, and_true, false_implies, implies_true]
    exact ⟨nn _, nn _, nn _, nn _⟩⟩
set_option maxRecDepth 100000 in
set_option maxHeartbeats 4000000 in
theorem implNewNode_any (id : Int) (a : Option Addr) (c : Nat) (ms : List Int) (w : World) (hM : Ints w (.slice a ms.length c) ms) (hs : ms.length ≤ 1048576) :
    Calls Try.prog 41 #[.int .i64 id, .slice a ms.length c] w fun e w' => NAns w.heap.size (nnOut id ms).1 (nnOut id ms).2 w e w' := by
  have HM := hide hM
  have B0 := hide ((Below.refl w.heap.size w).alloc (Nat.le_refl _) (.cells #[.int .i64 0, .int .i64 0, .int .i64 0, .slice none 0 0, .slice none 0 0, .int .i64 0, .slice none 0 0, .slice none 0 0, .slice none 0 0, .int .i64 0, .int .i64 0, .int .i64 0, .bool false] 42))
  have R0 := hide (Blk.new w #[.int .i64 0, .int .i64 0, .int .i64 0, .slice none 0 0, .slice none 0 0, .int .i64 0, .slice none 0 0, .slice none 0 0, .slice none 0 0, .int .i64 0, .int .i64 0, .int .i64 0, .bool false] 42 w.heap.size rfl)
  clear hM
  by_cases hl : 4096 < ms.length
  · have E : Hid (nnOut id ms = (zeroNo, 2)) := hide (by unfold nnOut; rw [if_pos hl])
    have hl2 : (4096 : Int) < (ms.length : Int) := by omega
    go_enter Try.func41, Try.ntmps41
    go_wp2_with fail
    refine bodyPost_ret (v := .tuple #[.agg #[.int .i64 0, .int .i64 0, .int .i64 0, .slice none 0 0, .slice none 0 0, .int .i64 0, .slice none 0 0, .slice none 0 0, .slice none 0 0, .int .i64 0, .int .i64 0, .int .i64 0, .bool false], .int .i64 2]) (by simp [results, Try.results41, go_sem]) rfl ?_
    rw [unhide E]
    exact ⟨none, 0, none, 0, none, 0, none, 0, none, 0, rfl, noO_zero _ _, unhide B0⟩
  have hl2 : ¬ (4096 : Int) < (ms.length : Int) := by omega
  have HNO : Hid (nnOut id ms = if inB id 0 6 && decide (mFault ms = 0) then (⟨id, 0, -1, 0, 0, 0, 5 + id, true, [], ms, [], List.replicate 7 1, List.replicate 7 0⟩, 0) else (zeroNo, 1)) := hide (by unfold nnOut; rw [if_neg hl])
  rcases Bool.eq_false_or_eq_true (inB id 0 6) with hin | hin
  case inr =>
    have E : Hid (nnOut id ms = (zeroNo, 1)) := hide (by rw [unhide HNO, hin]; rfl)
    go_enter Try.func41, Try.ntmps41
    go_wp2_with (go_at_call 40; refine (within_any _ _ _ _).mono ?_; rintro e w' ⟨rfl, hw'⟩; have hw2 := hw'.symm; clear hw'; subst hw2)
    all_goals
      refine bodyPost_ret (v := .tuple #[.agg #[.int .i64 0, .int .i64 0, .int .i64 0, .slice none 0 0, .slice none 0 0, .int .i64 0, .slice none 0 0, .slice none 0 0, .slice none 0 0, .int .i64 0, .int .i64 0, .int .i64 0, .bool false], .int .i64 1]) (by simp [results, Try.results41, go_sem]) rfl ?_
      rw [unhide E]
      exact ⟨none, 0, none, 0, none, 0, none, 0, none, 0, rfl, noO_zero _ _, unhide B0⟩
  have hid := inB_iff.1 hin
  go_enter Try.func41, Try.ntmps41
  go_wp2_with fail
  generalize w.alloc (.cells #[.int .i64 0, .int .i64 0, .int .i64 0, .slice none 0 0, .slice none 0 0, .int .i64 0, .slice none 0 0, .slice none 0 0, .slice none 0 0, .int .i64 0, .int .i64 0, .int .i64 0, .bool false] 42) = w0 at *
  refine (within_any _ _ _ _).mono ?_
  rintro e w' ⟨rfl, hw'⟩
  have hw2 := hw'.symm
  clear hw'
  subst hw2
  rw [hin]
  go_wp2_with fail
  refine (membersFault_any _ ms w0 ((unhide HM).below (unhide B0)) hs).mono ?_
  rintro e w1 ⟨rfl, n1, hn⟩
  have hb : Below w0.heap.size w0 w1 := by rw [hn]; exact below_drewN (Below.refl _ _) n1
  have K1 := hide ((unhide B0).trans (hb.mono (unhide B0).size))
  have RR := (unhide R0).below hb
  have R1 := hide RR
  have r0_ := RR.cell 0 rfl
  have f0_ := RR.fro 0
  have r1_ := RR.cell 1 rfl
  have f1_ := RR.fro 1
  have r2_ := RR.cell 2 rfl
  have f2_ := RR.fro 2
  have r3_ := RR.cell 3 rfl
  have f3_ := RR.fro 3
  have r4_ := RR.cell 4 rfl
  have f4_ := RR.fro 4
  have r5_ := RR.cell 5 rfl
  have f5_ := RR.fro 5
  have r6_ := RR.cell 6 rfl
  have f6_ := RR.fro 6
  have r7_ := RR.cell 7 rfl
  have f7_ := RR.fro 7
  have r8_ := RR.cell 8 rfl
  have f8_ := RR.fro 8
  have r9_ := RR.cell 9 rfl
  have f9_ := RR.fro 9
  have r10_ := RR.cell 10 rfl
  have f10_ := RR.fro 10
  have r11_ := RR.cell 11 rfl
  have f11_ := RR.fro 11
  have r12_ := RR.cell 12 rfl
  have f12_ := RR.fro 12
  clear hb hn RR B0 R0
  by_cases hm : mFault ms = 0
  case neg =>
    have hm2 : (mFault ms == 0) = false := by rw [beq_eq_false_iff_ne]; exact hm
    generalize hmm : mFault ms = mf at *
    clear hmm
    have E : Hid (nnOut id ms = (zeroNo, 1)) := hide (by rw [unhide HNO, hin]; simp [hm])
    go_wp2_with fail
    all_goals
      have R9 := ((((((((((((((unhide R1).set 0 (.int .i64 0) (by simp)).set 1 (.int .i64 0) (by simp)).set 2 (.int .i64 0) (by simp)).set 3 (.slice none 0 0) (by simp)).set 4 (.slice none 0 0) (by simp)).set 5 (.int .i64 0) (by simp)).set 6 (.slice none 0 0) (by simp)).set 7 (.slice none 0 0) (by simp)).set 8 (.slice none 0 0) (by simp)).set 9 (.int .i64 0) (by simp)).set 10 (.int .i64 0) (by simp)).set 11 (.int .i64 0) (by simp)).set 12 (.bool false) (by simp))
      have K9 := hide ((((((((((((((unhide K1).setCell (p := ⟨w.heap.size, 0, none⟩) (Nat.le_refl _) (.int .i64 0)).setCell (p := ⟨w.heap.size, 1, none⟩) (Nat.le_refl _) (.int .i64 0)).setCell (p := ⟨w.heap.size, 2, none⟩) (Nat.le_refl _) (.int .i64 0)).setCell (p := ⟨w.heap.size, 3, none⟩) (Nat.le_refl _) (.slice none 0 0)).setCell (p := ⟨w.heap.size, 4, none⟩) (Nat.le_refl _) (.slice none 0 0)).setCell (p := ⟨w.heap.size, 5, none⟩) (Nat.le_refl _) (.int .i64 0)).setCell (p := ⟨w.heap.size, 6, none⟩) (Nat.le_refl _) (.slice none 0 0)).setCell (p := ⟨w.heap.size, 7, none⟩) (Nat.le_refl _) (.slice none 0 0)).setCell (p := ⟨w.heap.size, 8, none⟩) (Nat.le_refl _) (.slice none 0 0)).setCell (p := ⟨w.heap.size, 9, none⟩) (Nat.le_refl _) (.int .i64 0)).setCell (p := ⟨w.heap.size, 10, none⟩) (Nat.le_refl _) (.int .i64 0)).setCell (p := ⟨w.heap.size, 11, none⟩) (Nat.le_refl _) (.int .i64 0)).setCell (p := ⟨w.heap.size, 12, none⟩) (Nat.le_refl _) (.bool false))
      have z0 := R9.cell 0 rfl
      have z1 := R9.cell 1 rfl
      have z2 := R9.cell 2 rfl
      have z3 := R9.cell 3 rfl
      have z4 := R9.cell 4 rfl
      have z5 := R9.cell 5 rfl
      have z6 := R9.cell 6 rfl
      have z7 := R9.cell 7 rfl
      have z8 := R9.cell 8 rfl
      have z9 := R9.cell 9 rfl
      have z10 := R9.cell 10 rfl
      have z11 := R9.cell 11 rfl
      have z12 := R9.cell 12 rfl
      refine bodyPost_ret (v := .tuple #[.agg #[.int .i64 0, .int .i64 0, .int .i64 0, .slice none 0 0, .slice none 0 0, .int .i64 0, .slice none 0 0, .slice none 0 0, .slice none 0 0, .int .i64 0, .int .i64 0, .int .i64 0, .bool false], .int .i64 1]) (by simp [results, Try.results41, go_sem, z0, z1, z2, z3, z4, z5, z6, z7, z8, z9, z10, z11, z12]) rfl ?_
      rw [unhide E]
      exact ⟨none, 0, none, 0, none, 0, none, 0, none, 0, rfl, noO_zero _ _, unhide K9⟩
  rw [hm]
  have E : Hid (nnOut id ms = (⟨id, 0, -1, 0, 0, 0, 5 + id, true, [], ms, [], List.replicate 7 1, List.replicate 7 0⟩, 0)) := hide (by rw [unhide HNO, hin, hm]; rfl)
  have hsm := mFault_small hm
  have w5 : IntKind.i64.wrap (5 + id) = 5 + id := by
    simp only [IntKind.wrap, IntKind.bits, IntKind.signed]
    simp
    omega
  have HMS := hide ((unhide HM).below (unhide K1))
  have HC := hide (freshNode_any id 0 (-1) 0 0 0 (5 + id) true [] ms [] [] [] none 0 a c none 0 none 0 none 0 w1 ⟨⟨none, 0, rfl, Nat.le_refl _, by unfold maxLen; omega, .inl rfl⟩, unhide HMS, ⟨none, 0, rfl, by unfold maxLen; simp, .inl rfl⟩, ⟨none, 0, rfl, by unfold maxLen; simp, .inl rfl⟩, ⟨none, 0, rfl, by unfold maxLen; simp, .inl rfl⟩⟩ (by simp) (by omega) (by simp) (by simp) (by simp))
  go_wp2_with fail
  refine (unhide HC).mono ?_
  rintro e w2 ⟨la', lc', sa', sc', gn, gm, rfl, hO, hb⟩
  simp only [List.length_nil] at hO ⊢
  clear r0_ f0_ r1_ f1_ r2_ f2_ r3_ f3_ r4_ f4_ r5_ f5_ r6_ f6_ r7_ f7_ r8_ f8_ r9_ f9_ r10_ f10_ r11_ f11_ r12_ f12_
  have hk1 := (unhide K1).size
  have hrb := (unhide R1).1
  have RR := (unhide R1).below hb
  have K2 := (unhide K1).trans (hb.mono hk1)
  have r0_ := RR.cell 0 rfl
  have f0_ := RR.fro 0
  have r1_ := RR.cell 1 rfl
  have f1_ := RR.fro 1
  have r2_ := RR.cell 2 rfl
  have f2_ := RR.fro 2
  have r3_ := RR.cell 3 rfl
  have f3_ := RR.fro 3
  have r4_ := RR.cell 4 rfl
  have f4_ := RR.fro 4
  have r5_ := RR.cell 5 rfl
  have f5_ := RR.fro 5
  have r6_ := RR.cell 6 rfl
  have f6_ := RR.fro 6
  have r7_ := RR.cell 7 rfl
  have f7_ := RR.fro 7
  have r8_ := RR.cell 8 rfl
  have f8_ := RR.fro 8
  have r9_ := RR.cell 9 rfl
  have f9_ := RR.fro 9
  have r10_ := RR.cell 10 rfl
  have f10_ := RR.fro 10
  have r11_ := RR.cell 11 rfl
  have f11_ := RR.fro 11
  have r12_ := RR.cell 12 rfl
  have f12_ := RR.fro 12
  have HR9 := hide (((((((((((((RR.set 0 (.int .i64 id) (by simp)).set 1 (.int .i64 0) (by simp)).set 2 (.int .i64 (-1)) (by simp)).set 3 (.slice la' 0 lc') (by simp)).set 4 (.slice sa' ms.length sc') (by simp)).set 5 (.int .i64 0) (by simp)).set 6 (.slice none 0 0) (by simp)).set 7 (.slice (some ⟨gn, 0, none⟩) 7 7) (by simp)).set 8 (.slice (some ⟨gm, 0, none⟩) 7 7) (by simp)).set 9 (.int .i64 0) (by simp)).set 10 (.int .i64 0) (by simp)).set 11 (.int .i64 (5 + id)) (by simp)).set 12 (.bool true) (by simp))
  have K9 := hide (((((((((((((K2.setCell (p := ⟨w.heap.size, 0, none⟩) (Nat.le_refl _) (.int .i64 id)).setCell (p := ⟨w.heap.size, 1, none⟩) (Nat.le_refl _) (.int .i64 0)).setCell (p := ⟨w.heap.size, 2, none⟩) (Nat.le_refl _) (.int .i64 (-1))).setCell (p := ⟨w.heap.size, 3, none⟩) (Nat.le_refl _) (.slice la' 0 lc')).setCell (p := ⟨w.heap.size, 4, none⟩) (Nat.le_refl _) (.slice sa' ms.length sc')).setCell (p := ⟨w.heap.size, 5, none⟩) (Nat.le_refl _) (.int .i64 0)).setCell (p := ⟨w.heap.size, 6, none⟩) (Nat.le_refl _) (.slice none 0 0)).setCell (p := ⟨w.heap.size, 7, none⟩) (Nat.le_refl _) (.slice (some ⟨gn, 0, none⟩) 7 7)).setCell (p := ⟨w.heap.size, 8, none⟩) (Nat.le_refl _) (.slice (some ⟨gm, 0, none⟩) 7 7)).setCell (p := ⟨w.heap.size, 9, none⟩) (Nat.le_refl _) (.int .i64 0)).setCell (p := ⟨w.heap.size, 10, none⟩) (Nat.le_refl _) (.int .i64 0)).setCell (p := ⟨w.heap.size, 11, none⟩) (Nat.le_refl _) (.int .i64 (5 + id))).setCell (p := ⟨w.heap.size, 12, none⟩) (Nat.le_refl _) (.bool true))
  have T9 := ((((((((((((((Touch.refl (fun q => q = w.heap.size) w2).setCell ⟨w.heap.size, 0, none⟩ (.int .i64 id) (fun _ => rfl)).setCell ⟨w.heap.size, 1, none⟩ (.int .i64 0) (fun _ => rfl)).setCell ⟨w.heap.size, 2, none⟩ (.int .i64 (-1)) (fun _ => rfl)).setCell ⟨w.heap.size, 3, none⟩ (.slice la' 0 lc') (fun _ => rfl)).setCell ⟨w.heap.size, 4, none⟩ (.slice sa' ms.length sc') (fun _ => rfl)).setCell ⟨w.heap.size, 5, none⟩ (.int .i64 0) (fun _ => rfl)).setCell ⟨w.heap.size, 6, none⟩ (.slice none 0 0) (fun _ => rfl)).setCell ⟨w.heap.size, 7, none⟩ (.slice (some ⟨gn, 0, none⟩) 7 7) (fun _ => rfl)).setCell ⟨w.heap.size, 8, none⟩ (.slice (some ⟨gm, 0, none⟩) 7 7) (fun _ => rfl)).setCell ⟨w.heap.size, 9, none⟩ (.int .i64 0) (fun _ => rfl)).setCell ⟨w.heap.size, 10, none⟩ (.int .i64 0) (fun _ => rfl)).setCell ⟨w.heap.size, 11, none⟩ (.int .i64 (5 + id)) (fun _ => rfl)).setCell ⟨w.heap.size, 12, none⟩ (.bool true) (fun _ => rfl))
  have O9 := hO.kept T9 (fun k e _ => by omega)
  have FF := hide (NoO.mk (World.ownsRow_monoE O9.lg hk1) (O9.st.mono hk1) (O9.vs.mono hk1) (O9.nx.mono hk1) (O9.mt.mono hk1) O9.ap)
  clear T9 O9 hO hb K2 RR HC HMS K1 R1
  go_wp2_with fail
  all_goals
    have R9 := unhide HR9
    have z0 := R9.cell 0 rfl
    have z1 := R9.cell 1 rfl
    have z2 := R9.cell 2 rfl
    have z3 := R9.cell 3 rfl
    have z4 := R9.cell 4 rfl
    have z5 := R9.cell 5 rfl
    have z6 := R9.cell 6 rfl
    have z7 := R9.cell 7 rfl
    have z8 := R9.cell 8 rfl
    have z9 := R9.cell 9 rfl
    have z10 := R9.cell 10 rfl
    have z11 := R9.cell 11 rfl
    have z12 := R9.cell 12 rfl
    refine bodyPost_ret (v := .tuple #[.agg #[.int .i64 id, .int .i64 0, .int .i64 (-1), .slice la' 0 lc', .slice sa' ms.length sc', .int .i64 0, .slice none 0 0, .slice (some ⟨gn, 0, none⟩) 7 7, .slice (some ⟨gm, 0, none⟩) 7 7, .int .i64 0, .int .i64 0, .int .i64 (5 + id), .bool true], .int .i64 0]) (by simp [results, Try.results41, go_sem, z0, z1, z2, z3, z4, z5, z6, z7, z8, z9, z10, z11, z12]) rfl ?_
    rw [unhide E]
    exact ⟨la', lc', sa', sc', none, 0, some ⟨gn, 0, none⟩, 7, some ⟨gm, 0, none⟩, 7, rfl, unhide FF, unhide K9⟩
end Go.Proofs.Ytafbdjcoimopfaa
