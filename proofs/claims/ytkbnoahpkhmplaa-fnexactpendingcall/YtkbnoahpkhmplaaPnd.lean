/- The last call of a client that has not ended: impl.pendingCalls (a map), spec.l13Pending, both PendingCall, walked. -/
import Derived.Test.YtkbnoahpkhmplaaCrl
import Derived.Test.YtkbnoahpkhmplaaIn
import Derived.Maps.Own
import Derived.Maps.OwnOps
import Derived.Maps.OwnSet
import Derived.Maps.Views
namespace Go.Proofs.Ytkbnoahpkhmplaa
open Go.ChangeShapes Go.WideShapes Go.ChangeAt Go.RowKit Go.Deep Go.Maps
set_option linter.unusedVariables false
set_option linter.unusedSimpArgs false

/-- The last of the first k calls that is the client's and has not ended, -1 without one. -/
def pnd (l : List Cr) (c : Int) : Nat → Int
  | 0 => -1
  | k + 1 => if (l.getD k default).cl = c ∧ (l.getD k default).en < 0 then (k : Int) else pnd l c k
theorem pnd_ge (l : List Cr) (c : Int) (k : Nat) : -1 ≤ pnd l c k ∧ pnd l c k < (k : Int) := by
  induction k with
  | zero => exact ⟨Int.le_refl _, by simp [pnd]⟩
  | succ k ih =>
    unfold pnd
    split
    · omega
    · omega
/-- The map of the first k calls: of each client the last place. -/
def Mk {H : Type} (l : List Cr) : Nat → DataW H
  | 0 => .map []
  | k + 1 => if (l.getD k default).en < 0 then (Mk l k).put (.int .i64 (l.getD k default).cl) (.lit (.int .i64 (k : Int))) else Mk l k
theorem Mk_map {H : Type} (l : List Cr) (k : Nat) : IsMap (Mk (H := H) l k) := by
  induction k with
  | zero => exact ⟨[], rfl⟩
  | succ k ih =>
    unfold Mk
    split
    · exact ih.put _ _
    · exact ih
theorem Mk_has {H : Type} (l : List Cr) (c : Int) (k : Nat) : Maps.has (Mk (H := H) l k) (.int .i64 c) = decide (0 ≤ pnd l c k) := by
  induction k with
  | zero => rfl
  | succ k ih =>
    unfold Mk pnd
    by_cases he : (l.getD k default).en < 0
    · rw [if_pos he]
      by_cases hc : (l.getD k default).cl = c
      · rw [if_pos ⟨hc, he⟩, hc, has_put_same (k := .int .i64 c) (Mk_map l k) (show WideAt.IsKeyLit (.int .i64 c) from trivial)]
        symm
        simp
      · rw [if_neg (fun h => hc h.1), has_put_other (fun h => hc (by simp only [Lit.int.injEq, true_and] at h; exact h.symm)), ih]
    · rw [if_neg he, if_neg (fun h => he h.2), ih]
theorem Mk_at {H : Type} (l : List Cr) (c : Int) (z : DataW H) (k : Nat) (h : 0 ≤ pnd l c k) : (Mk (H := H) l k).atKey (.int .i64 c) z = .lit (.int .i64 (pnd l c k)) := by
  induction k with
  | zero => simp [pnd] at h
  | succ k ih =>
    unfold Mk
    unfold pnd at h ⊢
    by_cases he : (l.getD k default).en < 0
    · rw [if_pos he]
      by_cases hc : (l.getD k default).cl = c
      · rw [if_pos ⟨hc, he⟩, hc, atKey_put_same (k := .int .i64 c) (Mk_map l k) (show WideAt.IsKeyLit (.int .i64 c) from trivial)]
      · rw [if_neg (fun h => hc h.1)] at h ⊢
        rw [atKey_put_other (fun h => hc (by simp only [Lit.int.injEq, true_and] at h; exact h.symm)), ih h]
    · have h2 : ¬ ((l.getD k default).cl = c ∧ (l.getD k default).en < 0) := fun h => he h.2
      rw [if_neg h2] at h ⊢
      rw [if_neg he, ih h]
def pcOut (l : List Cr) (c : Int) : Int × Int :=
  if 4096 < l.length then (0, 2) else if inB c 0 2 then (if pnd l c l.length < 0 then (0, 5) else (pnd l c l.length, 0)) else (0, 4)
theorem wrapP (n : Int) (h0 : -9223372036854775808 ≤ n) (h1 : n < 9223372036854775808) : IntKind.i64.wrap n = n := by
  simp only [IntKind.wrap, IntKind.bits, IntKind.signed]
  simp
  omega
theorem lawK : Keyed Try.prog 3 := int_keyed Try.underlying3
theorem zeroK (w : World) : (zeroValue 3).run Try.prog w = .ok (.int .i64 0) w := by kernel_rfl
set_option maxRecDepth 100000 in
set_option maxHeartbeats 1000000 in
theorem l13Pending_any (v : Value) (l : List Cr) (c : Int) (w : World) (h : Crs w v l) (hs : l.length ≤ 1048576) :
    Calls Try.prog 11 #[v, .int .i64 c] w fun e w' => e = .returned (.int .i64 (pnd l c l.length)) ∧ Below w.heap.size w w' := by
  obtain ⟨a, cap, rfl, hn, hm, hc⟩ := h
  have HC := hide hc
  clear hc hn hm
  have q0 : IntKind.i64.wrap ((l.length : Int) - 1) = (l.length : Int) - 1 := wrapP _ (by omega) (by omega)
  go_enter Try.func11, Try.ntmps11
  go_wp2_with fail
  go_loopw [5] (fun i wr => ∃ (k : Nat) (z : Int), k ≤ l.length ∧ z = (l.length : Int) - 1 - (k : Int) ∧ i = .int .i64 z ∧ Hid (pnd l c l.length = pnd l c (l.length - k)) ∧ Below w.heap.size w wr) (fun i _ => (intOf i + 1).toNat)
  case atStart => exact ⟨0, _, Nat.zero_le _, by simp, rfl, rfl, Below.refl _ _⟩
  case round =>
    obtain ⟨k, z, hk, hzz, rfl, hM, hb⟩ := hrel
    by_cases hlt : k < l.length
    · obtain ⟨q, hq⟩ : ∃ q, l.length = k + q + 1 := ⟨l.length - k - 1, by omega⟩
      obtain rfl : z = (q : Int) := by omega
      obtain ⟨b, off, rfl, hbl, hsrc⟩ : ∃ b off, a = some ⟨b, off, none⟩ ∧ b < w.heap.size ∧ ∀ i, i < l.length → w.cell? ⟨b, off + i * 11, none⟩ = some (.int .i64 (l.getD i default).cl) ∧ w.cell? ⟨b, off + i * 11 + 2, none⟩ = some (.int .i64 (l.getD i default).en) := by
        rcases unhide HC with h0 | ⟨b, off, e, hb, h1⟩
        · omega
        · exact ⟨b, off, e, hb, fun i hi => ⟨(h1 i hi).1, (h1 i hi).2.2.1⟩⟩
      obtain ⟨s0, s2⟩ := hsrc q (by omega)
      have c0 := (hb.cell (p := ⟨b, off + q * 11, none⟩) hbl).trans s0
      have c2 := (hb.cell (p := ⟨b, off + q * 11 + 2, none⟩) hbl).trans s2
      have m0 : (0 : Int) ≤ (q : Int) := by omega
      have m1 : (q : Int) < (l.length : Int) := by omega
      have m2 : IntKind.i64.wrap ((q : Int) - 1) = (q : Int) - 1 := wrapP _ (by omega) (by omega)
      have HM : Hid (pnd l c (l.length - k) = if (l.getD q default).cl = c ∧ (l.getD q default).en < 0 then (q : Int) else pnd l c (l.length - (k + 1))) := hide (by rw [show l.length - k = q + 1 by omega, show l.length - (k + 1) = q by omega]; rfl)
      have HX := hide (And.intro hq hzz)
      have HB := hide hb
      clear hq hzz hsrc s0 s2 hb
      generalize l.getD q default = f at *
      obtain ⟨f0, f1, f2, f3, f4, f5, f6, f7, f8, f9, f10⟩ := f
      dsimp only at c0 c2 HM
      by_cases h1 : f0 = c
      · have b1 : (f0 == c) = true := by rw [h1]; simp
        by_cases h2 : f2 < 0
        · have E : Hid (pnd l c l.length = (q : Int)) := hide (by rw [unhide hM, unhide HM, if_pos ⟨h1, h2⟩])
          go_wp2_with fail
          go_ret
          exact ⟨ret_int (unhide E).symm, unhide HB⟩
        · have E : Hid (pnd l c l.length = pnd l c (l.length - (k + 1))) := hide (by rw [unhide hM, unhide HM, if_neg (fun h => h2 h.2)])
          go_wp2_with fail
          refine ⟨⟨k + 1, _, by have := unhide HX; omega, ?_, rfl, E, unhide HB⟩, ?_⟩
          · have := unhide HX; omega
          · simp [intOf]
      · have b1 : (f0 == c) = false := by rw [beq_eq_false_iff_ne]; exact h1
        have E : Hid (pnd l c l.length = pnd l c (l.length - (k + 1))) := hide (by rw [unhide hM, unhide HM, if_neg (fun h => h1 h.1)])
        go_wp2_with fail
        refine ⟨⟨k + 1, _, by have := unhide HX; omega, ?_, rfl, E, unhide HB⟩, ?_⟩
        · have := unhide HX; omega
        · simp [intOf]
    · obtain rfl : k = l.length := by omega
      obtain rfl : z = -1 := by omega
      have E : Hid (pnd l c l.length = -1) := hide (by rw [unhide hM]; simp [pnd])
      have HB := hide hb
      clear hb hM
      go_wp2_with fail
      go_ret
      exact ⟨ret_int (unhide E).symm, unhide HB⟩
set_option maxRecDepth 100000 in
set_option maxHeartbeats 1000000 in
theorem pendingCalls_any {H : Type} (v : Value) (l : List Cr) (w : World) (h : Crs w v l) (hs : l.length ≤ 1048576) (hw : ∀ i, i < l.length → (Lit.int .i64 (l.getD i default).cl).wf = true) :
    Calls Try.prog 14 #[v] w fun e w' => e = .returned (.map (some w.heap.size)) ∧ w'.ownsMap Try.prog 3 (plainElem (H := H) Try.prog 3) w.heap.size l.length (Mk l l.length) ∧ Below w.heap.size w w' := by
  obtain ⟨a, cap, rfl, hn, hm, hc⟩ := h
  have HC := hide hc
  have HW := hide hw
  clear hc hn hm hw
  have hmm := @run_makeMap Try.prog
  go_enter Try.func14, Try.ntmps14
  go_wp2_with fail
  clear hmm
  go_loopw [9] (fun i wr => ∃ k : Nat, k ≤ l.length ∧ i = .int .i64 k ∧ wr.ownsMap Try.prog 3 (plainElem (H := H) Try.prog 3) w.heap.size k (Mk l k) ∧ Below w.heap.size w wr) (fun i _ => l.length - (intOf i).toNat)
  case atStart => exact ⟨0, Nat.zero_le _, rfl, World.ownsMap_made _ _ _ _, (Below.refl _ _).alloc (Nat.le_refl _) _⟩
  case round =>
    obtain ⟨k, hk, rfl, hown, hb⟩ := hrel
    by_cases hlt : k < l.length
    · obtain ⟨b, off, rfl, hbl, hsrc⟩ : ∃ b off, a = some ⟨b, off, none⟩ ∧ b < w.heap.size ∧ ∀ i, i < l.length → w.cell? ⟨b, off + i * 11, none⟩ = some (.int .i64 (l.getD i default).cl) ∧ w.cell? ⟨b, off + i * 11 + 1, none⟩ = some (.int .i64 (l.getD i default).bg) ∧ w.cell? ⟨b, off + i * 11 + 2, none⟩ = some (.int .i64 (l.getD i default).en) ∧ w.cell? ⟨b, off + i * 11 + 3, none⟩ = some (.int .i64 (l.getD i default).kd) ∧ w.cell? ⟨b, off + i * 11 + 4, none⟩ = some (.int .i64 (l.getD i default).ss) ∧ w.cell? ⟨b, off + i * 11 + 5, none⟩ = some (.int .i64 (l.getD i default).sq) ∧ w.cell? ⟨b, off + i * 11 + 6, none⟩ = some (.string (l.getD i default).ky) ∧ w.cell? ⟨b, off + i * 11 + 7, none⟩ = some (.string (l.getD i default).va) ∧ w.cell? ⟨b, off + i * 11 + 8, none⟩ = some (.int .i64 (l.getD i default).rk) ∧ w.cell? ⟨b, off + i * 11 + 9, none⟩ = some (.int .i64 (l.getD i default).rp) ∧ w.cell? ⟨b, off + i * 11 + 10, none⟩ = some (.string (l.getD i default).rv) := by
        rcases unhide HC with h0 | h1
        · omega
        · exact h1
      obtain ⟨s0, s1, s2, s3, s4, s5, s6, s7, s8, s9, s10⟩ := hsrc k hlt
      have c0 := (hb.cell (p := ⟨b, off + k * 11, none⟩) hbl).trans s0
      have c1 := (hb.cell (p := ⟨b, off + k * 11 + 1, none⟩) hbl).trans s1
      have c2 := (hb.cell (p := ⟨b, off + k * 11 + 2, none⟩) hbl).trans s2
      have c3 := (hb.cell (p := ⟨b, off + k * 11 + 3, none⟩) hbl).trans s3
      have c4 := (hb.cell (p := ⟨b, off + k * 11 + 4, none⟩) hbl).trans s4
      have c5 := (hb.cell (p := ⟨b, off + k * 11 + 5, none⟩) hbl).trans s5
      have c6 := (hb.cell (p := ⟨b, off + k * 11 + 6, none⟩) hbl).trans s6
      have c7 := (hb.cell (p := ⟨b, off + k * 11 + 7, none⟩) hbl).trans s7
      have c8 := (hb.cell (p := ⟨b, off + k * 11 + 8, none⟩) hbl).trans s8
      have c9 := (hb.cell (p := ⟨b, off + k * 11 + 9, none⟩) hbl).trans s9
      have c10 := (hb.cell (p := ⟨b, off + k * 11 + 10, none⟩) hbl).trans s10
      have hk0 : (0 : Int) ≤ (k : Int) := by omega
      have hk1 : (k : Int) < (l.length : Int) := by omega
      have HM : Hid (Mk (H := H) l (k + 1) = if (l.getD k default).en < 0 then (Mk l k).put (.int .i64 (l.getD k default).cl) (.lit (.int .i64 (k : Int))) else Mk l k) := hide rfl
      have hwk := unhide HW k hlt
      have HB := hide hb
      have hbs := hb.size
      have HO := hide hown
      clear hsrc s0 s1 s2 s3 s4 s5 s6 s7 s8 s9 s10 hb hown
      generalize l.getD k default = f at *
      obtain ⟨f0, f1, f2, f3, f4, f5, f6, f7, f8, f9, f10⟩ := f
      dsimp only at c0 c1 c2 c3 c4 c5 c6 c7 c8 c9 c10 HM hwk
      have HKY := hide (keyOf_int_mk (P := Try.prog) (k := 3) Try.underlying3 hwk)
      clear hwk
      by_cases he : f2 < 0
      · rw [if_pos he] at HM
        go_wp2_with (first
          | (at_mapUpdate; refine wpList_mapUpdate_own _ rfl _ _ _ 46 rfl 3 3 lawK Try.underlying46 _ w.heap.size k _ rfl ((unhide HO).alloc _) (by unfold maxLen; omega) _ _ _ rfl rfl (unhide HKY) _ [] (plainElem_int Try.underlying3 (WalkArith.wf_i64 (by omega))) ?_; intro w1 hown1 hgrow1; have HOW := hide (And.intro hown1 hgrow1); clear hown1 hgrow1)
          | fail)
        obtain ⟨hown1, hgrow1⟩ := unhide HOW
        refine ⟨⟨k + 1, by omega, by go_num, by rw [unhide HM]; exact hown1, ((unhide HB).alloc hbs _).grown hgrow1 (by simp; omega) (fun j hj => by cases hj; exact Nat.le_refl _)⟩, ?_⟩
        simp [intOf]; omega
      · rw [if_neg he] at HM
        go_wp2_with fail
        refine ⟨⟨k + 1, by omega, by go_num, by rw [unhide HM]; exact ((unhide HO).mono (Nat.le_succ k)).alloc _, (unhide HB).alloc hbs _⟩, ?_⟩
        simp [intOf]; omega
    · obtain rfl : k = l.length := by omega
      have R := hide (And.intro hown hb)
      clear hown hb
      go_wp2_with fail
      go_ret
      exact ⟨rfl, (unhide R).1, (unhide R).2⟩
set_option maxRecDepth 100000 in
set_option maxHeartbeats 1000000 in
theorem specPendingCall_any (v : Value) (l : List Cr) (c : Int) (w : World) (h : Crs w v l) (hs : l.length ≤ 1048576) :
    Calls Try.prog 5 #[v, .int .i64 c] w fun e w' => e = .returned (.tuple #[.int .i64 (pcOut l c).1, .int .i64 (pcOut l c).2]) ∧ Below w.heap.size w w' := by
  have HP := hide (l13Pending_any v l c w h hs)
  have HI := hide (l01In_any c 0 2 w)
  obtain ⟨a, cap, rfl, hn, hm, hc⟩ := h
  clear hc hn hm
  have HU : Hid (pcOut l c = if 4096 < l.length then (0, 2) else if inB c 0 2 then (if pnd l c l.length < 0 then (0, 5) else (pnd l c l.length, 0)) else (0, 4)) := hide rfl
  by_cases hb : 4096 < l.length
  · have q1 : (4096 : Int) < (l.length : Int) := by omega
    rw [if_pos hb] at HU
    go_enter Try.func5, Try.ntmps5
    go_wp2_with fail
    refine bodyPost_ret (v := .tuple #[.int .i64 0, .int .i64 2]) (by simp [results, Try.results5, go_sem]) rfl ?_
    rw [unhide HU]
    exact ⟨rfl, Below.refl _ _⟩
  have q1 : ¬ (4096 : Int) < (l.length : Int) := by omega
  rw [if_neg hb] at HU
  generalize pnd l c l.length = p at *
  generalize inB c 0 2 = bo at *
  go_enter Try.func5, Try.ntmps5
  go_wp2_with fail
  refine (unhide HI).mono ?_
  rintro e w' ⟨rfl, hw'⟩
  have hw2 := hw'.symm
  clear hw' HI
  subst hw2
  cases bo
  · rw [if_neg (by simp)] at HU
    go_wp2_with fail
    refine bodyPost_ret (v := .tuple #[.int .i64 0, .int .i64 4]) (by simp [results, Try.results5, go_sem]) rfl ?_
    rw [unhide HU]
    exact ⟨rfl, Below.refl _ _⟩
  rw [if_pos rfl] at HU
  go_wp2_with fail
  refine (unhide HP).mono ?_
  rintro e w1 ⟨rfl, hb1⟩
  have HB := hide hb1
  clear hb1 HP
  by_cases hp : p < 0
  · rw [if_pos hp] at HU
    go_wp2_with fail
    refine bodyPost_ret (v := .tuple #[.int .i64 0, .int .i64 5]) (by simp [results, Try.results5, go_sem]) rfl ?_
    rw [unhide HU]
    exact ⟨rfl, unhide HB⟩
  · rw [if_neg hp] at HU
    go_wp2_with fail
    refine bodyPost_ret (v := .tuple #[.int .i64 p, .int .i64 0]) (by simp [results, Try.results5, go_sem]) rfl ?_
    rw [unhide HU]
    exact ⟨rfl, unhide HB⟩
set_option maxRecDepth 100000 in
set_option maxHeartbeats 1000000 in
theorem clientOK_any (c : Int) (w : World) : Calls Try.prog 13 #[.int .i64 c] w fun e w' => e = .returned (.bool (inB c 0 2)) ∧ w' = w := by
  have HI := hide (within_any c 0 2 w)
  generalize inB c 0 2 = bo at *
  go_enter Try.func13, Try.ntmps13
  go_wp2_with fail
  refine (unhide HI).mono ?_
  rintro e w' ⟨rfl, hw'⟩
  have hw2 := hw'.symm
  clear hw' HI
  subst hw2
  go_wp2_with fail
  go_ret
  exact ⟨rfl, rfl⟩
set_option maxRecDepth 100000 in
set_option maxHeartbeats 1000000 in
theorem implPendingCall_any (v : Value) (l : List Cr) (c : Int) (w : World) (h : Crs w v l) (hs : l.length ≤ 1048576) (hw : ∀ i, i < l.length → (Lit.int .i64 (l.getD i default).cl).wf = true) (hcw : (Lit.int .i64 c).wf = true) :
    Calls Try.prog 7 #[v, .int .i64 c] w fun e w' => e = .returned (.tuple #[.int .i64 (pcOut l c).1, .int .i64 (pcOut l c).2]) ∧ Below w.heap.size w w' := by
  have HP := hide (pendingCalls_any (H := Unit) v l w h hs hw)
  have HI := hide (clientOK_any c w)
  obtain ⟨a, cap, rfl, hn, hm, hc⟩ := h
  clear hc hn hm hw
  have HU : Hid (pcOut l c = if 4096 < l.length then (0, 2) else if inB c 0 2 then (if pnd l c l.length < 0 then (0, 5) else (pnd l c l.length, 0)) else (0, 4)) := hide rfl
  have HKY := hide (keyOf_int_mk (P := Try.prog) (k := 3) Try.underlying3 hcw)
  clear hcw
  by_cases hb : 4096 < l.length
  · have q1 : (4096 : Int) < (l.length : Int) := by omega
    rw [if_pos hb] at HU
    go_enter Try.func7, Try.ntmps7
    go_wp2_with fail
    refine bodyPost_ret (v := .tuple #[.int .i64 0, .int .i64 2]) (by simp [results, Try.results7, go_sem]) rfl ?_
    rw [unhide HU]
    exact ⟨rfl, Below.refl _ _⟩
  have q1 : ¬ (4096 : Int) < (l.length : Int) := by omega
  rw [if_neg hb] at HU
  generalize inB c 0 2 = bo at *
  go_enter Try.func7, Try.ntmps7
  go_wp2_with fail
  refine (unhide HI).mono ?_
  rintro e w' ⟨rfl, hw'⟩
  have hw2 := hw'.symm
  clear hw' HI
  subst hw2
  cases bo
  · rw [if_neg (by simp)] at HU
    go_wp2_with fail
    refine bodyPost_ret (v := .tuple #[.int .i64 0, .int .i64 4]) (by simp [results, Try.results7, go_sem]) rfl ?_
    rw [unhide HU]
    exact ⟨rfl, Below.refl _ _⟩
  rw [if_pos rfl] at HU
  go_wp2_with fail
  refine (unhide HP).mono ?_
  rintro e w1 ⟨rfl, hown, hb1⟩
  have HB := hide hb1
  have HO := hide hown
  have HH := hide (Mk_has (H := Unit) l c l.length)
  have HA := hide (Mk_at (H := Unit) l c (.lit (.int .i64 0)) l.length)
  clear hb1 HP hown
  generalize pnd l c l.length = p at *
  generalize Mk (H := Unit) l l.length = D at *
  by_cases hp : p < 0
  · rw [if_pos hp] at HU
    have hh : Maps.has D (.int .i64 c) = false := by rw [unhide HH]; simp; omega
    go_wp2_with (at_lookup; refine wpList_lookup_own_ok_int _ rfl _ _ 46 rfl 3 3 .i64 lawK Try.underlying46 Try.underlying3 (zeroK _) w.heap.size l.length D rfl (unhide HO) _ _ rfl (unhide HKY) ?_; intro x hat hwx; clear hat hwx; rw [hh])
    refine bodyPost_ret (v := .tuple #[.int .i64 0, .int .i64 5]) (by simp [results, Try.results7, go_sem]) rfl ?_
    rw [unhide HU]
    exact ⟨rfl, unhide HB⟩
  · rw [if_neg hp] at HU
    have hh : Maps.has D (.int .i64 c) = true := by rw [unhide HH]; simp; omega
    have HA2 := hide (unhide HA (by omega))
    go_wp2_with (at_lookup; refine wpList_lookup_own_ok_int _ rfl _ _ 46 rfl 3 3 .i64 lawK Try.underlying46 Try.underlying3 (zeroK _) w.heap.size l.length D rfl (unhide HO) _ _ rfl (unhide HKY) ?_; intro x hat hwx; rw [unhide HA2] at hat; simp only [DataW.lit.injEq, Lit.int.injEq, true_and] at hat; rw [hh, ← hat]; clear hat hwx)
    refine bodyPost_ret (v := .tuple #[.int .i64 p, .int .i64 0]) (by simp [results, Try.results7, go_sem]) rfl ?_
    rw [unhide HU]
    exact ⟨rfl, unhide HB⟩
end Go.Proofs.Ytkbnoahpkhmplaa
