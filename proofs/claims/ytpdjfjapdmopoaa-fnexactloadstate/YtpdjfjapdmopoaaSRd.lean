/- The laws' own reader of bytes: its number and its text. -/
import Derived.Test.YtpdjfjapdmopoaaRdD
import Derived.Test.YtpdjfjapdmopoaaRdT
namespace Go.Proofs.Ytpdjfjapdmopoaa
open Go.ChangeShapes Go.WideShapes Go.ChangeAt Go.RowKit
set_option linter.unusedVariables false

/-- The specification's reader lies in block b, over the bytes l, at place p. -/
def SR (w : World) (b : Nat) (a : Option Addr) (cap : Nat) (l : List Int) (p : Nat) (bad : Bool) : Prop :=
  w.cell? ⟨b, 0, none⟩ = some (.slice a l.length cap) ∧ w.cell? ⟨b, 1, none⟩ = some (.int .i64 p) ∧ w.cell? ⟨b, 2, none⟩ = some (.bool bad) ∧ (∀ j, w.frozen? ⟨b, j, none⟩ = false) ∧ b < w.heap.size ∧ p ≤ l.length ∧ RdV w b (.slice a l.length cap) l ∧ l.length ≤ 65536
theorem SR.kept {T : Nat → Prop} {w w' : World} {b : Nat} {a : Option Addr} {cap : Nat} {l : List Int} {p : Nat} {bad : Bool} (h : SR w b a cap l p bad) (ht : Touch T w w') (hn : ∀ k, k ≤ b → ¬ T k) : SR w' b a cap l p bad := by
  obtain ⟨h0, h1, h2, hf, hlt, hp, hv, hl⟩ := h
  have hnb : ¬ T b := hn b (Nat.le_refl _)
  exact ⟨(ht.cell hlt hnb).trans h0, (ht.cell hlt hnb).trans h1, (ht.cell hlt hnb).trans h2, fun j => (ht.frozen hlt hnb).trans (hf j), Nat.lt_of_lt_of_le hlt ht.size, hp, hv.kept (Nat.le_of_lt hlt) ht (fun k hk => hn k (Nat.le_of_lt hk)), hl⟩
theorem SR.drewN {w : World} {b : Nat} {a : Option Addr} {cap : Nat} {l : List Int} {p : Nat} {bad : Bool} (h : SR w b a cap l p bad) (n : Nat) : SR (w.drewN n) b a cap l p bad := h.kept (T := fun _ => False) ((Touch.refl _ _).drewN n) (fun _ _ h => h)
theorem SR.alloc {w : World} {b : Nat} {a : Option Addr} {cap : Nat} {l : List Int} {p : Nat} {bad : Bool} (h : SR w b a cap l p bad) (o : Obj) : SR (w.alloc o) b a cap l p bad := h.kept (T := fun _ => False) ((Touch.refl _ _).alloc o) (fun _ _ h => h)
theorem SR.other {w : World} {b C : Nat} {a : Option Addr} {cap : Nat} {l : List Int} {p : Nat} {bad : Bool} (h : SR w b a cap l p bad) (j : Nat) (v : Value) (hne : b < C) : SR (w.setCell ⟨C, j, none⟩ v) b a cap l p bad :=
  h.kept (T := fun k => k = C) ((Touch.refl _ _).setCell _ _ (fun _ => rfl)) (fun k hk e => by omega)
theorem SR.at {w : World} {b : Nat} {a : Option Addr} {cap : Nat} {l : List Int} {p : Nat} {bad : Bool} (h : SR w b a cap l p bad) (q : Nat) (hq : q ≤ l.length) : SR (w.setCell ⟨b, 1, none⟩ (.int .i64 q)) b a cap l q bad := by
  obtain ⟨h0, h1, h2, hf, hlt, hp, hv, hl⟩ := h
  refine ⟨?_, World.cell?_setCell_same _ _ _ h1, ?_, fun j => by rw [World.frozen?_setCell]; exact hf j, by simpa using hlt, hq, hv.kept (Nat.le_of_lt hlt) (set_touch w b 1 _) (fun k hk e => by omega), hl⟩
  · rw [World.cell?_setCell_other _ _ _ _ (by simp)]; exact h0
  · rw [World.cell?_setCell_other _ _ _ _ (by simp)]; exact h2
theorem SR.spoil {w : World} {b : Nat} {a : Option Addr} {cap : Nat} {l : List Int} {p : Nat} {bad : Bool} (h : SR w b a cap l p bad) : SR (w.setCell ⟨b, 2, none⟩ (.bool true)) b a cap l p true := by
  obtain ⟨h0, h1, h2, hf, hlt, hp, hv, hl⟩ := h
  refine ⟨?_, ?_, World.cell?_setCell_same _ _ _ h2, fun j => by rw [World.frozen?_setCell]; exact hf j, by simpa using hlt, hp, hv.kept (Nat.le_of_lt hlt) (set_touch w b 2 _) (fun k hk e => by omega), hl⟩
  · rw [World.cell?_setCell_other _ _ _ _ (by simp)]; exact h0
  · rw [World.cell?_setCell_other _ _ _ _ (by simp)]; exact h1
theorem SR.src {w : World} {b : Nat} {a : Option Addr} {cap : Nat} {l : List Int} {p : Nat} {bad : Bool} (h : SR w b a cap l p bad) (i : Nat) (hi : i < l.length) : ∃ c off, a = some ⟨c, off, none⟩ ∧ w.cell? ⟨c, off + i, none⟩ = some (.int .u8 (l.getD i 0)) ∧ 0 ≤ l.getD i 0 ∧ l.getD i 0 ≤ 255 := by
  obtain ⟨_, _, _, _, _, _, ⟨a', cap', hv, h1, h2, hc, hr⟩, _⟩ := h
  simp only [Value.slice.injEq] at hv
  obtain ⟨rfl, _, rfl⟩ := hv
  rcases hc with ⟨_, h0⟩ | ⟨c, off, rfl, _, hcell⟩
  · omega
  · exact ⟨c, off, rfl, hcell i hi, hr i⟩

set_option maxRecDepth 100000 in
set_option maxHeartbeats 1000000 in
theorem specNumber_bad (n : Nat) (ni : Int) (hni : ni = (n : Int)) (b : Nat) (a : Option Addr) (cap : Nat) (l : List Int) (p : Nat) (w : World) (h : SR w b a cap l p true) (hn : 1 ≤ n) (hn4 : n ≤ 4) :
    Calls Try.prog 49 #[.pointer (some ⟨b, 0, none⟩), .int .i64 ni] w fun e w' => e = .returned (.int .i64 0) ∧ SR w' b a cap l p true ∧ Touch (fun k => k = b) w w' ∧ w'.heap.size = w.heap.size := by
  subst hni
  obtain ⟨h0, h1, h2, hf, hlt, hp, hv, hl⟩ := id h
  have f2 := hf 2
  have H := hide h
  have hn0 : (0 : Int) < (n : Int) := by omega
  clear h hf hv
  go_enter Try.func49, Try.ntmps49
  go_wp2_with fail
  refine wp_loop_rounds 1 ?_
  rw [rounds_succ]
  go_wp2_with fail
  go_quiet (fail)
  go_wp2_with fail
  go_ret
  have S1 := ((unhide H).drewN nq).spoil
  exact ⟨rfl, S1, ((Touch.refl _ _).drewN nq).setCell _ _ (fun _ => rfl), by simp⟩

set_option maxRecDepth 100000 in
set_option maxHeartbeats 1000000 in
theorem specNumber_any (n : Nat) (ni : Int) (hni : ni = (n : Int)) (b : Nat) (a : Option Addr) (cap : Nat) (l : List Int) (p : Nat) (w : World) (h : SR w b a cap l p false) (hn4 : n ≤ 4) :
    Calls Try.prog 49 #[.pointer (some ⟨b, 0, none⟩), .int .i64 ni] w fun e w' => ∃ x q bad, e = .returned (.int .i64 x) ∧ SR w' b a cap l q bad ∧ (p + n ≤ l.length → x = decN (l.drop p) n ∧ q = p + n ∧ bad = false) ∧ (¬ p + n ≤ l.length → x = 0 ∧ bad = true) ∧ Touch (fun k => k = b) w w' ∧ w'.heap.size = w.heap.size := by
  subst hni
  have H := hide h
  clear h
  go_enter Try.func49, Try.ntmps49
  go_wp2_with fail
  go_loopw [5, 6] (fun o i wr => ∃ k : Nat, k ≤ n ∧ p + k ≤ l.length ∧ i = .int .i64 k ∧ o = .int .i64 (decN (l.drop p) k) ∧ SR wr b a cap l (p + k) false ∧ Touch (fun k => k = b) w wr ∧ wr.heap.size = w.heap.size) (fun _ i _ => n - (intOf i).toNat)
  case atStart =>
    have hp := (unhide H).2.2.2.2.2.1
    exact ⟨0, Nat.zero_le _, hp, rfl, rfl, unhide H, Touch.refl _ _, rfl⟩
  case round =>
    obtain ⟨k, hk, hpk, rfl, rfl, hS, hT, hz⟩ := hrel
    by_cases hlt : k < n
    · obtain ⟨h0, h1, h2, hf, hb, hp, hv, hl⟩ := id hS
      have f1 := hf 1
      have f2 := hf 2
      by_cases hin : p + k < l.length
      · obtain ⟨c, off, rfl, hs1, hx0, hx1⟩ := hS.src (p + k) hin
        have HG := hide (getD_drop (l := l) (n := p) (i := k))
        have hrg : ∀ i, 0 ≤ (l.drop p).getD i 0 ∧ (l.drop p).getD i 0 ≤ 255 := range_drop p (by obtain ⟨_, _, _, _, _, _, hr⟩ := hv; exact hr)
        have hd := decN_lo (l.drop p) hrg k
        have hp3 : (256 : Int) ^ k ≤ 16777216 := by rcases (show k = 0 ∨ k = 1 ∨ k = 2 ∨ k = 3 by omega) with rfl | rfl | rfl | rfl <;> decide
        have hd2 : decN (l.drop p) k < 16777216 := by omega
        have hd1 := hd.1
        have HS : Hid (decN (l.drop p) (k + 1) = decN (l.drop p) k * 256 + (l.drop p).getD k 0) := rfl
        have R := hide (And.intro hS (And.intro hT hz))
        clear hS hT hz hf hv hrg hd hp3
        rw [unhide HG] at HS
        generalize l.getD (p + k) 0 = x at *
        generalize decN (l.drop p) k = y at *
        have m0 : IntKind.i64.wrap (y * 256) = y * 256 := by simp only [IntKind.wrap, IntKind.bits, IntKind.signed]; simp; omega
        have m1 : IntKind.i64.wrap (y * 256 + x) = y * 256 + x := by simp only [IntKind.wrap, IntKind.bits, IntKind.signed]; simp; omega
        have m2 : IntKind.i64.wrap x = x := by simp only [IntKind.wrap, IntKind.bits, IntKind.signed]; simp; omega
        have p0 : (0 : Int) ≤ ((p + k : Nat) : Int) := by omega
        have p1 : ((p + k : Nat) : Int) < (l.length : Int) := by omega
        have p2 : decide ((l.length : Int) ≤ ((p + k : Nat) : Int)) = false := by simp; omega
        have m3 : IntKind.i64.wrap (((p + k : Nat) : Int) + 1) = ((p + k + 1 : Nat) : Int) := by simp only [IntKind.wrap, IntKind.bits, IntKind.signed]; simp; omega
        have hln : (k : Int) < (n : Int) := by omega
        generalize hq : p + k = q at *
        have HQ := hide hq
        clear hq
        go_wp2_with fail
        go_quiet (fail)
        go_wp2_with fail
        have e0 : (wr.drewN nq).cell? ⟨b, 0, none⟩ = _ := h0
        have e1 : (wr.drewN nq).cell? ⟨b, 1, none⟩ = _ := h1
        have e3 : (wr.drewN nq).cell? ⟨c, off + q, none⟩ = _ := hs1
        have e4 : (wr.drewN nq).frozen? ⟨b, 1, none⟩ = false := f1
        have HQ2 := unhide HQ
        subst HQ2
        have R2 := hide (And.intro ((unhide R).1.drewN nq) (And.intro ((unhide R).2.1.drewN nq) (show (wr.drewN nq).heap.size = w.heap.size from (unhide R).2.2)))
        clear h0 h1 h2 hs1 f1 f2 R
        generalize wr.drewN nq = w1 at *
        generalize hq : p + k = q at *
        have HQ := hide hq
        clear hq
        go_quiet (fail)
        go_wp2_with fail
        have S3 := (((unhide R2).1).drewN nq).at (q + 1) (by omega)
        refine ⟨⟨k + 1, by omega, by have := unhide HQ; omega, by go_num, by rw [unhide HS], ?_, ((unhide R2).2.1.drewN nq).setCell _ _ (fun _ => rfl), by simpa using (unhide R2).2.2⟩, by simp [intOf]; omega⟩
        rw [show p + (k + 1) = q + 1 by have := unhide HQ; omega]
        exact S3
      · have hpe : p + k = l.length := by omega
        have p3 : (l.length : Int) ≤ ((p + k : Nat) : Int) := by omega
        have hln : (k : Int) < (n : Int) := by omega
        have R := hide (And.intro hS (And.intro hT hz))
        have HE := hide hpe
        clear hS hT hz hf hv hpe hin
        generalize hq : p + k = q at *
        have HQ := hide hq
        clear hq
        go_wp2_with fail
        go_quiet (fail)
        go_wp2_with fail
        go_ret
        refine ⟨0, q, true, rfl, (((unhide R).1).drewN nq).spoil, fun h => ?_, fun _ => ⟨rfl, rfl⟩, ((unhide R).2.1.drewN nq).setCell _ _ (fun _ => rfl), by simpa using (unhide R).2.2⟩
        have := unhide HQ
        have := unhide HE
        omega
    · obtain rfl : k = n := by omega
      have R := hide (And.intro hS (And.intro hT hz))
      clear hS hT hz
      go_wp2_with fail
      go_ret
      exact ⟨_, _, _, rfl, (unhide R).1, fun _ => ⟨rfl, rfl, rfl⟩, fun h => absurd hpk h, (unhide R).2.1, (unhide R).2.2⟩

set_option maxRecDepth 100000 in
set_option maxHeartbeats 1000000 in
theorem specText_bad (n : Int) (b : Nat) (a : Option Addr) (cap : Nat) (l : List Int) (p : Nat) (w : World) (h : SR w b a cap l p true) :
    Calls Try.prog 66 #[.pointer (some ⟨b, 0, none⟩), .int .i64 n] w fun e w' => e = .returned (.string ⟨#[]⟩) ∧ SR w' b a cap l p true ∧ Touch (fun k => k = b) w w' ∧ w'.heap.size = w.heap.size := by
  obtain ⟨h0, h1, h2, hf, hlt, hp, hv, hl⟩ := id h
  have f2 := hf 2
  have H := hide h
  clear h hf hv
  go_enter Try.func66, Try.ntmps66
  go_wp2_with fail
  go_quiet (fail)
  go_wp2_with fail
  go_ret
  exact ⟨rfl, ((unhide H).drewN nq).spoil, ((Touch.refl _ _).drewN nq).setCell _ _ (fun _ => rfl), by simp⟩

set_option maxRecDepth 100000 in
set_option maxHeartbeats 1000000 in
theorem specText_any (n : Nat) (b : Nat) (a : Option Addr) (cap : Nat) (l : List Int) (p : Nat) (w : World) (h : SR w b a cap l p false) (hn : n ≤ 255) :
    Calls Try.prog 66 #[.pointer (some ⟨b, 0, none⟩), .int .i64 n] w fun e w' => ∃ t q bad, e = .returned (.string t) ∧ SR w' b a cap l q bad ∧ (p + n ≤ l.length → t = strOfNums ((l.drop p).take n) ∧ q = p + n ∧ bad = false) ∧ (¬ p + n ≤ l.length → t = ⟨#[]⟩ ∧ bad = true) ∧ Touch (fun k => k = b) w w' ∧ w'.heap.size = w.heap.size := by
  obtain ⟨h0, h1, h2, hf, hlt, hp, hv, hl⟩ := id h
  have f1 := hf 1
  have f2 := hf 2
  have H := hide h
  have hn0 : ¬ ((n : Int) < 0) := by omega
  have hn1 : decide ((n : Int) < 0) = false := by simp
  have m1 : IntKind.i64.wrap ((p : Int) + (n : Int)) = (p : Int) + (n : Int) := by simp only [IntKind.wrap, IntKind.bits, IntKind.signed]; simp; omega
  by_cases hin : p + n ≤ l.length
  · have p1 : ¬ ((l.length : Int) < (p : Int) + (n : Int)) := by omega
    have p2 : decide ((l.length : Int) < (p : Int) + (n : Int)) = false := by simp; omega
    clear h hf
    go_enter Try.func66, Try.ntmps66
    go_wp2_with fail
    go_quiet (fail)
    go_wp2_with fail
    have hpn : (p : Int) + (n : Int) = ((p + n : Nat) : Int) := by omega
    rw [hpn]
    have S1 := hide (((unhide H).drewN nq).at (p + n) hin)
    have T1 := hide (((Touch.refl (fun k => k = b) w).drewN nq).setCell ⟨b, 1, none⟩ (.int .i64 ((p + n : Nat) : Int)) (fun _ => rfl))
    have Z1 : Hid (((w.drewN nq).setCell ⟨b, 1, none⟩ (.int .i64 ((p + n : Nat) : Int))).heap.size = w.heap.size) := hide (by simp)
    clear h0 h1 h2 f1 f2 hv hpn m1 H
    generalize (w.drewN nq).setCell ⟨b, 1, none⟩ (.int .i64 ((p + n : Nat) : Int)) = w1 at *
    obtain ⟨h0, h1, h2, hf, hb1, _, ⟨a', cap', hv, hc1, hc2, hsrc, hr⟩, _⟩ := unhide S1
    simp only [Value.slice.injEq] at hv
    obtain ⟨rfl, _, rfl⟩ := hv
    obtain ⟨q, hq⟩ : ∃ q, q = p + n := ⟨_, rfl⟩
    rw [← hq] at h1 S1
    have m4 : IntKind.i64.wrap ((q : Int) - (n : Int)) = (p : Int) := by simp only [IntKind.wrap, IntKind.bits, IntKind.signed]; simp; omega
    have HM := hide hc2
    unfold maxLen at hc2
    have q0 : (0 : Int) ≤ (p : Int) := by omega
    have q1 : (p : Int) ≤ (q : Int) := by omega
    have q2 : (q : Int) ≤ (cap : Int) := by omega
    have q3 : q - p = n := by omega
    rcases hsrc with rfl | ⟨c, off, rfl, hcb, hcell⟩
    · obtain rfl : p = 0 := by omega
      obtain rfl : n = 0 := by omega
      obtain rfl : q = 0 := by omega
      have hl0 : l.length = 0 := by omega
      obtain rfl : l = [] := List.eq_nil_of_length_eq_zero hl0
      have hcv : ∀ m, (convert 66 9 (.slice a 0 0)).run Try.prog (w1.drewN m) = .ok (.string (strOfNums [])) (w1.drewN m) := fun m => conv_zero 66 9 5 Try.underlying66 Try.underlying5 Try.underlying9 a 0 _
      clear hf h2 hr hq hin m4 q0 q1 q2 q3 hc1 hl0 p1 p2 hl hp
      have m4 : IntKind.i64.wrap (0 : Int) = 0 := by simp [IntKind.wrap, IntKind.bits, IntKind.signed]
      simp only [List.length_nil] at h0
      generalize htx : strOfNums [] = tx at *
      have HX := hide htx
      clear htx
      cases a
      all_goals
        go_quiet (fail)
        go_wp2_with fail
        go_ret
        exact ⟨tx, 0, false, rfl, (unhide S1).drewN _, fun _ => ⟨by rw [← unhide HX]; rfl, rfl, rfl⟩, fun h => absurd (by simp) h, (unhide T1).drewN _, unhide Z1⟩
    · by_cases hcp : cap = p
      · subst hcp
        obtain rfl : n = 0 := by omega
        obtain rfl : q = cap := by omega
        have hcv : ∀ m, (convert 66 9 (.slice (some ⟨c, off, none⟩) 0 0)).run Try.prog (w1.drewN m) = .ok (.string (strOfNums [])) (w1.drewN m) := fun m =>
          run_convert_bytes_arg _ 66 5 Try.underlying66 Try.underlying5 c off 0 0 [] rfl (fun i hi => by omega) 9 Try.underlying9
        have HQ := hide hin
        clear hf h2 hr hcell hq hin m4
        have m4 : IntKind.i64.wrap ((q : Int) - 0) = (q : Int) := by simp only [IntKind.wrap, IntKind.bits, IntKind.signed]; simp; omega
        have m5 : IntKind.i64.wrap (q : Int) = (q : Int) := by simp only [IntKind.wrap, IntKind.bits, IntKind.signed]; simp; omega
        generalize htx : strOfNums [] = tx at *
        have HX := hide htx
        clear htx
        go_quiet (fail)
        go_wp2_with fail
        go_ret
        exact ⟨tx, q, false, rfl, (unhide S1).drewN _, fun _ => ⟨by rw [← unhide HX]; rfl, rfl, rfl⟩, fun h => absurd (unhide HQ) h, (unhide T1).drewN _, unhide Z1⟩
      · have hcv : ∀ m, (convert 66 9 (.slice (some ⟨c, off + p, none⟩) n (cap - p))).run Try.prog (w1.drewN m) = .ok (.string (strOfNums ((l.drop p).take n))) (w1.drewN m) := by
          intro m
          have hcell : ∀ i, i < l.length → (w1.drewN m).cell? ⟨c, off + i, none⟩ = some (.int .u8 (l.getD i 0)) := hcell
          refine run_convert_bytes_arg _ 66 5 Try.underlying66 Try.underlying5 c (off + p) n (cap - p) _ (by simp; omega) (fun i hi => ?_) 9 Try.underlying9
          rw [Nat.add_assoc, hcell (p + i) (by omega), getD_take hi, getD_drop]
        have HQ := hide hq
        clear hf h2 hr hcell hq hin
        generalize htx : strOfNums ((l.drop p).take n) = tx at *
        have HX := hide htx
        clear htx
        go_quiet (fail)
        go_wp2_with fail
        go_ret
        exact ⟨tx, q, false, rfl, (unhide S1).drewN _, fun _ => ⟨(unhide HX).symm, unhide HQ, rfl⟩, fun h => absurd (by have := unhide HQ; omega) h, (unhide T1).drewN _, unhide Z1⟩
  · have p1 : (l.length : Int) < (p : Int) + (n : Int) := by omega
    clear h hf hv
    go_enter Try.func66, Try.ntmps66
    go_wp2_with fail
    go_quiet (fail)
    go_wp2_with fail
    go_ret
    exact ⟨_, _, _, rfl, ((unhide H).drewN nq).spoil, fun h => absurd h hin, fun _ => ⟨rfl, rfl⟩, ((Touch.refl _ _).drewN nq).setCell _ _ (fun _ => rfl), by simp⟩
end Go.Proofs.Ytpdjfjapdmopoaa
