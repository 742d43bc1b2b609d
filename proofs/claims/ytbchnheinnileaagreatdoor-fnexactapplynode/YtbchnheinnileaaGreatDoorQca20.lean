/- What the proof of the claim needs (joined by program): SRd SRdP SRdK RdK Sta MemI LaidI. -/
import Derived.Test.YtbchnheinnileaaGreatDoorQca19
import Derived.Test.YtbchnheinnileaaGreatDoorQca09
import Derived.Test.YtbchnheinnileaaGreatDoorQca11
import Derived.Test.YtbchnheinnileaaGreatDoorQca00
import Derived.Test.YtbchnheinnileaaGreatDoorQca01
import Derived.Test.YtbchnheinnileaaGreatDoorQca04
import Derived.Deep.RegionHeld3
import Derived.BigRegion
import Derived.Deep.QuietTactic
import Derived.BigQuiet
namespace Go.Proofs.YtbchnheinnileaaGreatDoor
set_option maxRecDepth 100000
set_option maxHeartbeats 8000000
open Go.ChangeShapes Go.WideShapes Go.ChangeAt Go.RowKit
set_option linter.unusedVariables false
def SR (w : World) (b : Nat) (a : Option Addr) (cap : Nat) (l : List Int) (p : Nat) (bad : Bool) : Prop :=
 w.cell? ⟨b, 0, none⟩ = some (.slice a l.length cap) ∧ w.cell? ⟨b, 1, none⟩ = some (.int .i64 p) ∧ w.cell? ⟨b, 2, none⟩ = some (.bool bad) ∧ (∀ j, w.frozen? ⟨b, j, none⟩ = false) ∧ b < w.heap.size ∧ p ≤ l.length ∧ RdV w b (.slice a l.length cap) l ∧ l.length ≤ 65536
theorem SR.kept {T : Nat → Prop} {w w' : World} {b : Nat} {a : Option Addr} {cap : Nat} {l : List Int} {p : Nat} {bad : Bool} (h : SR w b a cap l p bad) (ht : Touch T w w') (hn : ∀ k, k ≤ b → ¬ T k) : SR w' b a cap l p bad := by
 obtain ⟨h0, h1, h2, hf, hlt, hp, hv, hl⟩ := h
 have hnb : ¬ T b := hn b (Nat.le_refl _)
 exact ⟨(ht.cell hlt hnb).trans h0, (ht.cell hlt hnb).trans h1, (ht.cell hlt hnb).trans h2, fun j => (ht.frozen hlt hnb).trans (hf j), Nat.lt_of_lt_of_le hlt ht.size, hp, hv.kept (Nat.le_of_lt hlt) ht (fun k hk => hn k (Nat.le_of_lt hk)), hl⟩
theorem SR.drewN {w : World} {b : Nat} {a : Option Addr} {cap : Nat} {l : List Int} {p : Nat} {bad : Bool} (h : SR w b a cap l p bad) (n : Nat) : SR (w.drewN n) b a cap l p bad := h.kept (T := fun _ => False) ((Touch.refl _ _).drewN n) (fun _ _ h => h)
theorem SR.alloc {w : World} {b : Nat} {a : Option Addr} {cap : Nat} {l : List Int} {p : Nat} {bad : Bool} (h : SR w b a cap l p bad) (o : Obj) : SR (w.alloc o) b a cap l p bad := h.kept (T := fun _ => False) ((Touch.refl _ _).alloc o) (fun _ _ h => h)
theorem SR.other {w : World} {b C : Nat} {a : Option Addr} {cap : Nat} {l : List Int} {p : Nat} {bad : Bool} (h : SR w b a cap l p bad) (j : Nat) (v : Value) (hne : b < C) : SR (w.setCell ⟨C, j, none⟩ v) b a cap l p bad :=
 h.kept (T := fun k => k = C) ((Touch.refl _ _).setCell _ _ (fun _ => rfl)) (fun k hk e => by omega)
theorem SR.at {w : World} {b : Nat} {a : Option Addr} {cap : Nat} {l : List Int} {p : Nat} {bad : Bool} (h : SR w b a cap l p bad) (q : Nat) (hq : q ≤ l.length) : SR (w.setCell ⟨b, 1, none⟩ (.int .i64 q)) b a cap l q bad := by
 obtain ⟨h0, h1, h2, hf, hlt, hp, hv, hl⟩ := h
 refine ⟨?_, World.cell?_setCell_same _ _ _ h1, ?_, fun j => by rw [World.frozen?_setCell]; exact hf j, by simpa using hlt, hq, hv.kept (Nat.le_of_lt hlt) (set_touch w b 1 _) (fun k hk e => by omega), hl⟩
 ·rw [World.cell?_setCell_other _ _ _ _ (by simp)]; exact h0
 ·rw [World.cell?_setCell_other _ _ _ _ (by simp)]; exact h2
theorem SR.spoil {w : World} {b : Nat} {a : Option Addr} {cap : Nat} {l : List Int} {p : Nat} {bad : Bool} (h : SR w b a cap l p bad) : SR (w.setCell ⟨b, 2, none⟩ (.bool true)) b a cap l p true := by
 obtain ⟨h0, h1, h2, hf, hlt, hp, hv, hl⟩ := h
 refine ⟨?_, ?_, World.cell?_setCell_same _ _ _ h2, fun j => by rw [World.frozen?_setCell]; exact hf j, by simpa using hlt, hp, hv.kept (Nat.le_of_lt hlt) (set_touch w b 2 _) (fun k hk e => by omega), hl⟩
 ·rw [World.cell?_setCell_other _ _ _ _ (by simp)]; exact h0
 ·rw [World.cell?_setCell_other _ _ _ _ (by simp)]; exact h1
theorem SR.src {w : World} {b : Nat} {a : Option Addr} {cap : Nat} {l : List Int} {p : Nat} {bad : Bool} (h : SR w b a cap l p bad) (i : Nat) (hi : i < l.length) : ∃ c off, a = some ⟨c, off, none⟩ ∧ w.cell? ⟨c, off + i, none⟩ = some (.int .u8 (l.getD i 0)) ∧ 0 ≤ l.getD i 0 ∧ l.getD i 0 ≤ 255 := by
 obtain ⟨_, _, _, _, _, _, ⟨a', cap', hv, h1, h2, hc, hr⟩, _⟩ := h
 simp only [Value.slice.injEq] at hv
 obtain ⟨rfl, _, rfl⟩ := hv
 rcases hc with ⟨_, h0⟩ | ⟨c, off, rfl, _, hcell⟩
 ·omega
 ·exact ⟨c, off, rfl, hcell i hi, hr i⟩

theorem specNumber_bad (n : Nat) (ni : Int) (hni : ni = (n : Int)) (b : Nat) (a : Option Addr) (cap : Nat) (l : List Int) (p : Nat) (w : World) (h : SR w b a cap l p true) (hn : 1 ≤ n) (hn4 : n ≤ 4) :
  Calls Tryz.prog 60 #[.pointer (some ⟨b, 0, none⟩), .int .i64 ni] w fun e w' => e = .returned (.int .i64 0) ∧ SR w' b a cap l p true ∧ Touch (fun k => k = b) w w' ∧ w'.heap.size = w.heap.size := by
 subst hni
 obtain ⟨h0, h1, h2, hf, hlt, hp, hv, hl⟩ := id h
 have f2 := hf 2
 have H := Hd h
 have hn0 : (0 : Int) < (n : Int) := by omega
 clear h hf hv
 go_enter Tryz.func60, Tryz.ntmps60
 go_wp2_with fail
 refine wp_loop_rounds 1 ?_
 rw [rounds_succ]
 go_wp2_with fail
 go_quiet (fail)
 go_wp2_with fail
 go_ret
 have S1 := ((uh H).drewN nq).spoil
 exact ⟨rfl, S1, ((Touch.refl _ _).drewN nq).setCell _ _ (fun _ => rfl), by simp⟩

theorem specNumber_any (n : Nat) (ni : Int) (hni : ni = (n : Int)) (b : Nat) (a : Option Addr) (cap : Nat) (l : List Int) (p : Nat) (w : World) (h : SR w b a cap l p false) (hn4 : n ≤ 4) :
  Calls Tryz.prog 60 #[.pointer (some ⟨b, 0, none⟩), .int .i64 ni] w fun e w' => ∃ x q bad, e = .returned (.int .i64 x) ∧ SR w' b a cap l q bad ∧ (p + n ≤ l.length → x = decN (l.drop p) n ∧ q = p + n ∧ bad = false) ∧ (¬ p + n ≤ l.length → x = 0 ∧ bad = true) ∧ Touch (fun k => k = b) w w' ∧ w'.heap.size = w.heap.size := by
 subst hni
 have H := Hd h
 clear h
 go_enter Tryz.func60, Tryz.ntmps60
 go_wp2_with fail
 go_loopw [5, 6] (fun o i wr => ∃ k : Nat, k ≤ n ∧ p + k ≤ l.length ∧ i = .int .i64 k ∧ o = .int .i64 (decN (l.drop p) k) ∧ SR wr b a cap l (p + k) false ∧ Touch (fun k => k = b) w wr ∧ wr.heap.size = w.heap.size) (fun _ i _ => n - (intOf i).toNat)
 case atStart =>
  have hp := (uh H).2.2.2.2.2.1
  exact ⟨0, Nat.zero_le _, hp, rfl, rfl, uh H, Touch.refl _ _, rfl⟩
 case round =>
  obtain ⟨k, hk, hpk, rfl, rfl, hS, hT, hz⟩ := hrel
  by_cases hlt : k < n
  ·obtain ⟨h0, h1, h2, hf, hb, hp, hv, hl⟩ := id hS
   have f1 := hf 1
   have f2 := hf 2
   by_cases hin : p + k < l.length
   ·obtain ⟨c, off, rfl, hs1, hx0, hx1⟩ := hS.src (p + k) hin
    have HG := Hd (getD_drop (l := l) (n := p) (i := k))
    have hrg : ∀ i, 0 ≤ (l.drop p).getD i 0 ∧ (l.drop p).getD i 0 ≤ 255 := range_drop p (by obtain ⟨_, _, _, _, _, _, hr⟩ := hv; exact hr)
    have hd := decN_lo (l.drop p) hrg k
    have hp3 : (256 : Int) ^ k ≤ 16777216 := by rcases (show k = 0 ∨ k = 1 ∨ k = 2 ∨ k = 3 by omega) with rfl | rfl | rfl | rfl <;> decide
    have hd2 : decN (l.drop p) k < 16777216 := by omega
    have hd1 := hd.1
    have HS : Hid (decN (l.drop p) (k + 1) = decN (l.drop p) k * 256 + (l.drop p).getD k 0) := rfl
    have R := Hd (And.intro hS (And.intro hT hz))
    clear hS hT hz hf hv hrg hd hp3
    rw [uh HG] at HS
    generalize l.getD (p + k) 0 = x at *
    generalize decN (l.drop p) k = y at *
    have m0 : IntKind.i64.wrap (y * 256) = y * 256 := by simp only [IntKind.wrap, IntKind.bits, IntKind.signed]; simp; omega
    have m1 : IntKind.i64.wrap (y * 256 + x) = y * 256 + x := by simp only [IntKind.wrap, IntKind.bits, IntKind.signed]; simp; omega
    have m2 : IntKind.i64.wrap x = x := by simp only [IntKind.wrap, IntKind.bits, IntKind.signed]; simp; omega
    have p0 : (0 : Int) ≤ ((p + k : Nat) : Int) := by omega
    have p1 : ((p + k : Nat) : Int) < (l.length : Int) := by omega
    have p2 : decide ((l.length : Int) ≤ ((p + k : Nat) : Int)) = false := by simp; omega
    have m3 : IntKind.i64.wrap (((p + k : Nat) : Int) + 1) = ((p + k + 1 : Nat) : Int) := by simp only [IntKind.wrap, IntKind.bits, IntKind.signed]; simp; omega
    have hln : (k : Int) < (n : Int) := by omega
    generalize hq : p + k = q at *
    have HQ := Hd hq
    clear hq
    go_wp2_with fail
    go_quiet (fail)
    go_wp2_with fail
    have e0 : (wr.drewN nq).cell? ⟨b, 0, none⟩ = _ := h0
    have e1 : (wr.drewN nq).cell? ⟨b, 1, none⟩ = _ := h1
    have e3 : (wr.drewN nq).cell? ⟨c, off + q, none⟩ = _ := hs1
    have e4 : (wr.drewN nq).frozen? ⟨b, 1, none⟩ = false := f1
    have HQ2 := uh HQ
    subst HQ2
    have R2 := Hd (And.intro ((uh R).1.drewN nq) (And.intro ((uh R).2.1.drewN nq) (show (wr.drewN nq).heap.size = w.heap.size from (uh R).2.2)))
    clear h0 h1 h2 hs1 f1 f2 R
    generalize wr.drewN nq = w1 at *
    generalize hq : p + k = q at *
    have HQ := Hd hq
    clear hq
    go_quiet (fail)
    go_wp2_with fail
    have S3 := (((uh R2).1).drewN nq).at (q + 1) (by omega)
    refine ⟨⟨k + 1, by omega, by have := uh HQ; omega, by go_num, by rw [uh HS], ?_, ((uh R2).2.1.drewN nq).setCell _ _ (fun _ => rfl), by simpa using (uh R2).2.2⟩, by simp [intOf]; omega⟩
    rw [show p + (k + 1) = q + 1 by have := uh HQ; omega]
    exact S3
   ·have hpe : p + k = l.length := by omega
    have p3 : (l.length : Int) ≤ ((p + k : Nat) : Int) := by omega
    have hln : (k : Int) < (n : Int) := by omega
    have R := Hd (And.intro hS (And.intro hT hz))
    have HE := Hd hpe
    clear hS hT hz hf hv hpe hin
    generalize hq : p + k = q at *
    have HQ := Hd hq
    clear hq
    go_wp2_with fail
    go_quiet (fail)
    go_wp2_with fail
    go_ret
    refine ⟨0, q, true, rfl, (((uh R).1).drewN nq).spoil, fun h => ?_, fun _ => ⟨rfl, rfl⟩, ((uh R).2.1.drewN nq).setCell _ _ (fun _ => rfl), by simpa using (uh R).2.2⟩
    have := uh HQ
    have := uh HE
    omega
  ·obtain rfl : k = n := by omega
   have R := Hd (And.intro hS (And.intro hT hz))
   clear hS hT hz
   go_wp2_with fail
   go_ret
   exact ⟨_, _, _, rfl, (uh R).1, fun _ => ⟨rfl, rfl, rfl⟩, fun h => absurd hpk h, (uh R).2.1, (uh R).2.2⟩

theorem specText_bad (n : Int) (b : Nat) (a : Option Addr) (cap : Nat) (l : List Int) (p : Nat) (w : World) (h : SR w b a cap l p true) :
  Calls Tryz.prog 61 #[.pointer (some ⟨b, 0, none⟩), .int .i64 n] w fun e w' => e = .returned (.string ⟨#[]⟩) ∧ SR w' b a cap l p true ∧ Touch (fun k => k = b) w w' ∧ w'.heap.size = w.heap.size := by
 obtain ⟨h0, h1, h2, hf, hlt, hp, hv, hl⟩ := id h
 have f2 := hf 2
 have H := Hd h
 clear h hf hv
 go_enter Tryz.func61, Tryz.ntmps61
 go_wp2_with fail
 go_quiet (fail)
 go_wp2_with fail
 go_ret
 exact ⟨rfl, ((uh H).drewN nq).spoil, ((Touch.refl _ _).drewN nq).setCell _ _ (fun _ => rfl), by simp⟩

theorem specText_any (n : Nat) (b : Nat) (a : Option Addr) (cap : Nat) (l : List Int) (p : Nat) (w : World) (h : SR w b a cap l p false) (hn : n ≤ 255) :
  Calls Tryz.prog 61 #[.pointer (some ⟨b, 0, none⟩), .int .i64 n] w fun e w' => ∃ t q bad, e = .returned (.string t) ∧ SR w' b a cap l q bad ∧ (p + n ≤ l.length → t = strOfNums ((l.drop p).take n) ∧ q = p + n ∧ bad = false) ∧ (¬ p + n ≤ l.length → t = ⟨#[]⟩ ∧ bad = true) ∧ Touch (fun k => k = b) w w' ∧ w'.heap.size = w.heap.size := by
 obtain ⟨h0, h1, h2, hf, hlt, hp, hv, hl⟩ := id h
 have f1 := hf 1
 have f2 := hf 2
 have H := Hd h
 have hn0 : ¬ ((n : Int) < 0) := by omega
 have hn1 : decide ((n : Int) < 0) = false := by simp
 have m1 : IntKind.i64.wrap ((p : Int) + (n : Int)) = (p : Int) + (n : Int) := by simp only [IntKind.wrap, IntKind.bits, IntKind.signed]; simp; omega
 by_cases hin : p + n ≤ l.length
 ·have p1 : ¬ ((l.length : Int) < (p : Int) + (n : Int)) := by omega
  have p2 : decide ((l.length : Int) < (p : Int) + (n : Int)) = false := by simp; omega
  clear h hf
  go_enter Tryz.func61, Tryz.ntmps61
  go_wp2_with fail
  go_quiet (fail)
  go_wp2_with fail
  have hpn : (p : Int) + (n : Int) = ((p + n : Nat) : Int) := by omega
  rw [hpn]
  have S1 := Hd (((uh H).drewN nq).at (p + n) hin)
  have T1 := Hd (((Touch.refl (fun k => k = b) w).drewN nq).setCell ⟨b, 1, none⟩ (.int .i64 ((p + n : Nat) : Int)) (fun _ => rfl))
  have Z1 : Hid (((w.drewN nq).setCell ⟨b, 1, none⟩ (.int .i64 ((p + n : Nat) : Int))).heap.size = w.heap.size) := Hd (by simp)
  clear h0 h1 h2 f1 f2 hv hpn m1 H
  generalize (w.drewN nq).setCell ⟨b, 1, none⟩ (.int .i64 ((p + n : Nat) : Int)) = w1 at *
  obtain ⟨h0, h1, h2, hf, hb1, _, ⟨a', cap', hv, hc1, hc2, hsrc, hr⟩, _⟩ := uh S1
  simp only [Value.slice.injEq] at hv
  obtain ⟨rfl, _, rfl⟩ := hv
  obtain ⟨q, hq⟩ : ∃ q, q = p + n := ⟨_, rfl⟩
  rw [← hq] at h1 S1
  have m4 : IntKind.i64.wrap ((q : Int) - (n : Int)) = (p : Int) := by simp only [IntKind.wrap, IntKind.bits, IntKind.signed]; simp; omega
  have HM := Hd hc2
  unfold maxLen at hc2
  have q0 : (0 : Int) ≤ (p : Int) := by omega
  have q1 : (p : Int) ≤ (q : Int) := by omega
  have q2 : (q : Int) ≤ (cap : Int) := by omega
  have q3 : q - p = n := by omega
  rcases hsrc with rfl | ⟨c, off, rfl, hcb, hcell⟩
  ·obtain rfl : p = 0 := by omega
   obtain rfl : n = 0 := by omega
   obtain rfl : q = 0 := by omega
   have hl0 : l.length = 0 := by omega
   obtain rfl : l = [] := List.eq_nil_of_length_eq_zero hl0
   have hcv : ∀ m, (convert 80 9 (.slice a 0 0)).run Tryz.prog (w1.drewN m) = .ok (.string (strOfNums [])) (w1.drewN m) := fun m => conv_zero 80 9 5 Tryz.underlying80 Tryz.underlying5 Tryz.underlying9 a 0 _
   clear hf h2 hr hq hin m4 q0 q1 q2 q3 hc1 hl0 p1 p2 hl hp
   have m4 : IntKind.i64.wrap (0 : Int) = 0 := by simp [IntKind.wrap, IntKind.bits, IntKind.signed]
   simp only [List.length_nil] at h0
   generalize htx : strOfNums [] = tx at *
   have HX := Hd htx
   clear htx
   cases a
   all_goals
    go_quiet (fail)
    go_wp2_with fail
    go_ret
    exact ⟨tx, 0, false, rfl, (uh S1).drewN _, fun _ => ⟨by rw [← uh HX]; rfl, rfl, rfl⟩, fun h => absurd (by simp) h, (uh T1).drewN _, uh Z1⟩
  ·by_cases hcp : cap = p
   ·subst hcp
    obtain rfl : n = 0 := by omega
    obtain rfl : q = cap := by omega
    have hcv : ∀ m, (convert 80 9 (.slice (some ⟨c, off, none⟩) 0 0)).run Tryz.prog (w1.drewN m) = .ok (.string (strOfNums [])) (w1.drewN m) := fun m =>
     run_convert_bytes_arg _ 80 5 Tryz.underlying80 Tryz.underlying5 c off 0 0 [] rfl (fun i hi => by omega) 9 Tryz.underlying9
    have HQ := Hd hin
    clear hf h2 hr hcell hq hin m4
    have m4 : IntKind.i64.wrap ((q : Int) - 0) = (q : Int) := by simp only [IntKind.wrap, IntKind.bits, IntKind.signed]; simp; omega
    have m5 : IntKind.i64.wrap (q : Int) = (q : Int) := by simp only [IntKind.wrap, IntKind.bits, IntKind.signed]; simp; omega
    generalize htx : strOfNums [] = tx at *
    have HX := Hd htx
    clear htx
    go_quiet (fail)
    go_wp2_with fail
    go_ret
    exact ⟨tx, q, false, rfl, (uh S1).drewN _, fun _ => ⟨by rw [← uh HX]; rfl, rfl, rfl⟩, fun h => absurd (uh HQ) h, (uh T1).drewN _, uh Z1⟩
   ·have hcv : ∀ m, (convert 80 9 (.slice (some ⟨c, off + p, none⟩) n (cap - p))).run Tryz.prog (w1.drewN m) = .ok (.string (strOfNums ((l.drop p).take n))) (w1.drewN m) := by
     intro m
     have hcell : ∀ i, i < l.length → (w1.drewN m).cell? ⟨c, off + i, none⟩ = some (.int .u8 (l.getD i 0)) := hcell
     refine run_convert_bytes_arg _ 80 5 Tryz.underlying80 Tryz.underlying5 c (off + p) n (cap - p) _ (by simp; omega) (fun i hi => ?_) 9 Tryz.underlying9
     rw [Nat.add_assoc, hcell (p + i) (by omega), getD_take hi, getD_drop]
    have HQ := Hd hq
    clear hf h2 hr hcell hq hin
    generalize htx : strOfNums ((l.drop p).take n) = tx at *
    have HX := Hd htx
    clear htx
    go_quiet (fail)
    go_wp2_with fail
    go_ret
    exact ⟨tx, q, false, rfl, (uh S1).drewN _, fun _ => ⟨(uh HX).symm, uh HQ, rfl⟩, fun h => absurd (by have := uh HQ; omega) h, (uh T1).drewN _, uh Z1⟩
 ·have p1 : (l.length : Int) < (p : Int) + (n : Int) := by omega
  clear h hf hv
  go_enter Tryz.func61, Tryz.ntmps61
  go_wp2_with fail
  go_quiet (fail)
  go_wp2_with fail
  go_ret
  exact ⟨_, _, _, rfl, ((uh H).drewN nq).spoil, fun h => absurd h hin, fun _ => ⟨rfl, rfl⟩, ((Touch.refl _ _).drewN nq).setCell _ _ (fun _ => rfl), by simp⟩
end Go.Proofs.YtbchnheinnileaaGreatDoor
namespace Go.Proofs.YtbchnheinnileaaGreatDoor
set_option maxRecDepth 100000
set_option maxHeartbeats 8000000
open Go.ChangeShapes Go.WideShapes Go.ChangeAt Go.RowKit
set_option linter.unusedVariables false
set_option linter.unusedSimpArgs false
def SRd (w : World) (b : Nat) (a : Option Addr) (cap : Nat) (l : List Int) : Option (List Int) → Prop
 | none => ∃ p, SR w b a cap l p true
 | some rs => ∃ p, SR w b a cap l p false ∧ rs = l.drop p
theorem SRd.kept {T : Nat → Prop} {w w' : World} {b : Nat} {a : Option Addr} {cap : Nat} {l : List Int} {st : Option (List Int)} (h : SRd w b a cap l st) (ht : Touch T w w') (hn : ∀ k, k ≤ b → ¬ T k) : SRd w' b a cap l st := by
 cases st with
 | none => obtain ⟨p, h⟩ := h; exact ⟨p, h.kept ht hn⟩
 | some rs => obtain ⟨p, h, e⟩ := h; exact ⟨p, h.kept ht hn, e⟩
theorem SRd.alloc {w : World} {b : Nat} {a : Option Addr} {cap : Nat} {l : List Int} {st : Option (List Int)} (h : SRd w b a cap l st) (o : Obj) : SRd (w.alloc o) b a cap l st := h.kept (T := fun _ => False) ((Touch.refl _ _).alloc o) (fun _ _ h => h)
theorem SRd.other {w : World} {b C : Nat} {a : Option Addr} {cap : Nat} {l : List Int} {st : Option (List Int)} (h : SRd w b a cap l st) (j : Nat) (v : Value) (hne : b < C) : SRd (w.setCell ⟨C, j, none⟩ v) b a cap l st :=
 h.kept (T := fun k => k = C) ((Touch.refl _ _).setCell _ _ (fun _ => rfl)) (fun k hk e => by omega)
theorem SRd.range {w : World} {b : Nat} {a : Option Addr} {cap : Nat} {l : List Int} {st : Option (List Int)} (h : SRd w b a cap l st) : rangeP st := by
 cases st with
 | none => trivial
 | some rs =>
  obtain ⟨p, ⟨_, _, _, _, _, _, ⟨_, _, _, _, _, _, hr⟩, _⟩, rfl⟩ := h
  exact range_drop p hr
theorem decN_take (l : List Int) (n : Nat) : ∀ k, k ≤ n → decN (l.take n) k = decN l k := by
 intro k
 induction k with
 | zero => intro _; rfl
 | succ k ih => intro hk; simp only [decN]; rw [ih (by omega), getD_take (by omega)]

theorem specNumberP (n : Nat) (ni : Int) (hni : ni = (n : Int)) (b : Nat) (a : Option Addr) (cap : Nat) (l : List Int) (st : Option (List Int)) (w : World) (h : SRd w b a cap l st) (hn : 1 ≤ n) (hn4 : n ≤ 4) :
  Calls Tryz.prog 60 #[.pointer (some ⟨b, 0, none⟩), .int .i64 ni] w fun e w' => e = .returned (.int .i64 (numP n st).1) ∧ SRd w' b a cap l (numP n st).2 ∧ Touch (fun k => k = b) w w' ∧ w'.heap.size = w.heap.size := by
 cases st with
 | none =>
  obtain ⟨p, h⟩ := h
  refine (specNumber_bad n ni hni b a cap l p w h hn hn4).mono ?_
  rintro e w' ⟨rfl, hS, hT, hz⟩
  exact ⟨rfl, ⟨p, hS⟩, hT, hz⟩
 | some rs =>
  obtain ⟨p, h, rfl⟩ := h
  have hp := h.2.2.2.2.2.1
  refine (specNumber_any n ni hni b a cap l p w h hn4).mono ?_
  rintro e w' ⟨x, q, bad, rfl, hS, h1, h2, hT, hz⟩
  by_cases hin : p + n ≤ l.length
  ·obtain ⟨rfl, rfl, rfl⟩ := h1 hin
   have e : takeP n (some (l.drop p)) = ((l.drop p).take n, some ((l.drop p).drop n)) := by simp [takeP]; omega
   have hl : ((l.drop p).take n).length = n := by simp; omega
   refine ⟨ret_int ?_, ?_, hT, hz⟩
   ·unfold numP; rw [e]; unfold dec; rw [hl, decN_take _ _ _ (Nat.le_refl _)]
   ·unfold numP; rw [e]; exact ⟨p + n, hS, by rw [List.drop_drop]⟩
  ·obtain ⟨rfl, rfl⟩ := h2 hin
   have e : takeP n (some (l.drop p)) = ([], none) := by simp [takeP]; omega
   refine ⟨ret_int ?_, ?_, hT, hz⟩
   ·unfold numP; rw [e]; rfl
   ·unfold numP; rw [e]; exact ⟨q, hS⟩
theorem specTextP (n : Nat) (b : Nat) (a : Option Addr) (cap : Nat) (l : List Int) (st : Option (List Int)) (w : World) (h : SRd w b a cap l st) (hn : n ≤ 255) :
  Calls Tryz.prog 61 #[.pointer (some ⟨b, 0, none⟩), .int .i64 n] w fun e w' => e = .returned (.string (strOfNums (takeP n st).1)) ∧ SRd w' b a cap l (takeP n st).2 ∧ Touch (fun k => k = b) w w' ∧ w'.heap.size = w.heap.size := by
 cases st with
 | none =>
  obtain ⟨p, h⟩ := h
  refine (specText_bad n b a cap l p w h).mono ?_
  rintro e w' ⟨rfl, hS, hT, hz⟩
  exact ⟨rfl, ⟨p, hS⟩, hT, hz⟩
 | some rs =>
  obtain ⟨p, h, rfl⟩ := h
  have hp := h.2.2.2.2.2.1
  refine (specText_any n b a cap l p w h hn).mono ?_
  rintro e w' ⟨x, q, bad, rfl, hS, h1, h2, hT, hz⟩
  by_cases hin : p + n ≤ l.length
  ·obtain ⟨rfl, rfl, rfl⟩ := h1 hin
   have e : takeP n (some (l.drop p)) = ((l.drop p).take n, some ((l.drop p).drop n)) := by simp [takeP]; omega
   rw [e]
   exact ⟨rfl, ⟨p + n, hS, by rw [List.drop_drop]⟩, hT, hz⟩
  ·obtain ⟨rfl, rfl⟩ := h2 hin
   have e : takeP n (some (l.drop p)) = ([], none) := by simp [takeP]; omega
   rw [e]
   exact ⟨rfl, ⟨q, hS⟩, hT, hz⟩

theorem strOfNums_small (l : List Int) (h : l.length ≤ 65536) : (strOfNums l).size ≤ maxLen := by rw [strOfNums_size]; unfold maxLen; omega
theorem doneP_some (l : List Int) (p : Nat) : doneP (some (l.drop p)) = decide (l.length ≤ p) := by
 by_cases h : l.length ≤ p
 ·rw [List.drop_eq_nil_of_le h]; simp [doneP, h]
 ·have : (l.drop p).length ≠ 0 := by simp; omega
  cases hd : l.drop p with
  | nil => rw [hd] at this; simp at this
  | cons x r => simp [doneP]; omega
theorem textP_len {st : Option (List Int)} (h : rangeP st) : (textP st).1.length ≤ 255 := by
 have h1 := takeP_len (numP 1 st).1.toNat (numP 1 st).2
 have h2 := num1_range h
 show (takeP (numP 1 st).1.toNat (numP 1 st).2).1.length ≤ 255
 omega
theorem l02Read_any (a : Option Addr) (cap : Nat) (l : List Int) (w : World) (h : RdV w w.heap.size (.slice a l.length cap) l) (hl : l.length ≤ 65536) :
  Calls Tryz.prog 41 #[.slice a l.length cap] w fun e w' => e = .returned (.tuple #[cmdVal (cmdP (some l)).1, .bool (doneP (cmdP (some l)).2 && cmdOK (cmdP (some l)).1.1 (cmdP (some l)).1.2.1 (cmdP (some l)).1.2.2.1 (cmdP (some l)).1.2.2.2.1 (cmdP (some l)).1.2.2.2.2)]) ∧ Below w.heap.size w w' := by
 have H := Hd h
 clear h
 go_enter Tryz.func41, Tryz.ntmps41
 go_wp2_with fail
 have R0 := Hd ((Blk.new w #[.int .i64 0, .int .i64 0, .int .i64 0, .string ⟨#[]⟩, .string ⟨#[]⟩] 77 w.heap.size rfl).alloc (.cells #[.slice a l.length cap, .int .i64 0, .bool false] 110))
 have K0 := Hd ((bal w (.cells #[.int .i64 0, .int .i64 0, .int .i64 0, .string ⟨#[]⟩, .string ⟨#[]⟩] 77)).alloc (by simp) (.cells #[.slice a l.length cap, .int .i64 0, .bool false] 110))
 have N0 : Hid (((w.alloc (.cells #[.int .i64 0, .int .i64 0, .int .i64 0, .string ⟨#[]⟩, .string ⟨#[]⟩] 77)).alloc (.cells #[.slice a l.length cap, .int .i64 0, .bool false] 110)).heap.size = w.heap.size + 2) := Hd (by simp)
 have S0 : Hid (SRd ((w.alloc (.cells #[.int .i64 0, .int .i64 0, .int .i64 0, .string ⟨#[]⟩, .string ⟨#[]⟩] 77)).alloc (.cells #[.slice a l.length cap, .int .i64 0, .bool false] 110)) (w.heap.size + 1) a cap l (some l)) := Hd (by
  have hB := Blk.new (w.alloc (.cells #[.int .i64 0, .int .i64 0, .int .i64 0, .string ⟨#[]⟩, .string ⟨#[]⟩] 77)) #[.slice a l.length cap, .int .i64 0, .bool false] 110 (w.heap.size + 1) (by simp)
  refine ⟨0, ⟨hB.cell 0 rfl, hB.cell 1 rfl, hB.cell 2 rfl, hB.fro, hB.1, Nat.zero_le _, ?_, hl⟩, rfl⟩
  have h1 := (uh H).kept (Nat.le_refl _) (((Touch.refl (fun _ => False) w).alloc (.cells #[.int .i64 0, .int .i64 0, .int .i64 0, .string ⟨#[]⟩, .string ⟨#[]⟩] 77)).alloc (.cells #[.slice a l.length cap, .int .i64 0, .bool false] 110)) (fun _ _ h => h)
  obtain ⟨a', c', hv, q1, q2, hc, hr⟩ := h1
  refine ⟨a', c', hv, q1, q2, ?_, hr⟩
  rcases hc with h0 | ⟨c, off, ha, hlt, hcell⟩
  ·exact .inl h0
  ·exact .inr ⟨c, off, ha, by omega, hcell⟩)
 clear H
 generalize (w.alloc (.cells #[.int .i64 0, .int .i64 0, .int .i64 0, .string ⟨#[]⟩, .string ⟨#[]⟩] 77)).alloc (.cells #[.slice a l.length cap, .int .i64 0, .bool false] 110) = w0 at *
 refine (specNumberP 1 1 rfl (w.heap.size + 1) a cap l (some l) _ (uh S0) (by omega) (by omega)).mono ?_
 rintro e w1 ⟨rfl, hS, hT, hz⟩
 obtain ⟨x1, st1, hx1⟩ : ∃ x s, numP 1 (some l) = (x, s) := ⟨_, _, rfl⟩
 rw [hx1] at hS ⊢
 have HX1 := Hd hx1
 dsimp only at hS ⊢
 have R1 := Hd ((uh R0).kept hT (by show ¬ w.heap.size = w.heap.size + 1; omega))
 have K1 := Hd ((uh K0).trans (hT.below (B := w.heap.size) (uh K0).size (fun k hk e => by subst e; omega)))
 have N1 : Hid (w1.heap.size = _) := Hd (hz.trans (uh N0))
 have S1 := Hd hS
 clear hx1 hS hT hz R0 K0 N0 S0
 go_wp2_with fail
 refine (specNumberP 2 2 rfl (w.heap.size + 1) a cap l st1 _ (uh S1) (by omega) (by omega)).mono ?_
 rintro e w2 ⟨rfl, hS, hT, hz⟩
 obtain ⟨x2, st2, hx2⟩ : ∃ x s, numP 2 st1 = (x, s) := ⟨_, _, rfl⟩
 rw [hx2] at hS ⊢
 have HX2 := Hd hx2
 dsimp only at hS ⊢
 have R2 := Hd ((uh R1).kept hT (by show ¬ w.heap.size = w.heap.size + 1; omega))
 have K2 := Hd ((uh K1).trans (hT.below (B := w.heap.size) (uh K1).size (fun k hk e => by subst e; omega)))
 have N2 : Hid (w2.heap.size = _) := Hd (hz.trans (uh N1))
 have S2 := Hd hS
 clear hx2 hS hT hz R1 K1 N1 S1
 go_wp2_with fail
 refine (specNumberP 2 2 rfl (w.heap.size + 1) a cap l st2 _ (uh S2) (by omega) (by omega)).mono ?_
 rintro e w3 ⟨rfl, hS, hT, hz⟩
 obtain ⟨x3, st3, hx3⟩ : ∃ x s, numP 2 st2 = (x, s) := ⟨_, _, rfl⟩
 rw [hx3] at hS ⊢
 have HX3 := Hd hx3
 dsimp only at hS ⊢
 have R3 := Hd ((uh R2).kept hT (by show ¬ w.heap.size = w.heap.size + 1; omega))
 have K3 := Hd ((uh K2).trans (hT.below (B := w.heap.size) (uh K2).size (fun k hk e => by subst e; omega)))
 have N3 : Hid (w3.heap.size = _) := Hd (hz.trans (uh N2))
 have S3 := Hd hS
 clear hx3 hS hT hz R2 K2 N2 S2
 go_wp2_with fail
 have hC : w.heap.size + 1 < w3.heap.size := by have := uh N3; omega
 have C3 := Hd (Blk.new w3 #[.int .i64 x1, .int .i64 x2, .int .i64 x3, .string ⟨#[]⟩, .string ⟨#[]⟩] 77 w3.heap.size rfl)
 have R3a := Hd ((uh R3).alloc (.cells #[.int .i64 x1, .int .i64 x2, .int .i64 x3, .string ⟨#[]⟩, .string ⟨#[]⟩] 77))
 have K3a := Hd ((uh K3).alloc (uh K3).size (.cells #[.int .i64 x1, .int .i64 x2, .int .i64 x3, .string ⟨#[]⟩, .string ⟨#[]⟩] 77))
 have S3a := Hd ((uh S3).alloc (.cells #[.int .i64 x1, .int .i64 x2, .int .i64 x3, .string ⟨#[]⟩, .string ⟨#[]⟩] 77))
 have hr3 := num1_range (uh S3).range
 clear R3 K3 S3 N3
 generalize w3.alloc (.cells #[.int .i64 x1, .int .i64 x2, .int .i64 x3, .string ⟨#[]⟩, .string ⟨#[]⟩] 77) = w3a at *
 have C3a := C3
 clear C3
 refine (specNumberP 1 1 rfl (w.heap.size + 1) a cap l st3 _ (uh S3a) (by omega) (by omega)).mono ?_
 rintro e w4 ⟨rfl, hS, hT, hz⟩
 obtain ⟨x4, st4, hx4⟩ : ∃ x s, numP 1 st3 = (x, s) := ⟨_, _, rfl⟩
 rw [hx4] at hS hr3 ⊢
 dsimp only at hS hr3 ⊢
 obtain ⟨n4, rfl⟩ : ∃ n : Nat, x4 = (n : Int) := ⟨x4.toNat, by omega⟩
 have HX4 := Hd hx4
 have R4 := Hd ((uh R3a).kept hT (by show ¬ w.heap.size = w.heap.size + 1; omega))
 have C4 := Hd ((uh C3a).kept hT (by show ¬ w3.heap.size = w.heap.size + 1; omega))
 have K4 := Hd ((uh K3a).trans (hT.below (B := w.heap.size) (uh K3a).size (fun k hk e => by subst e; omega)))
 have S4 := Hd hS
 clear hx4 hS hT hz R3a C3a K3a S3a
 go_wp2_with fail
 refine (specTextP n4 (w.heap.size + 1) a cap l st4 _ (uh S4) (by omega)).mono ?_
 rintro e w5 ⟨rfl, hS, hT, hz⟩
 obtain ⟨y5, st5, hx5⟩ : ∃ x s, takeP n4 st4 = (x, s) := ⟨_, _, rfl⟩
 have hyl : y5.length ≤ n4 := by have := takeP_len n4 st4; rw [hx5] at this; exact this
 have hsz5 := strOfNums_small y5 (by omega)
 rw [hx5] at hS ⊢
 have HX5 := Hd hx5
 dsimp only at hS ⊢
 have R5' := Hd ((uh R4).kept hT (by show ¬ w.heap.size = w.heap.size + 1; omega))
 have C5' := Hd ((uh C4).kept hT (by show ¬ w3.heap.size = w.heap.size + 1; omega))
 have K5' := Hd ((uh K4).trans (hT.below (B := w.heap.size) (uh K4).size (fun k hk e => by subst e; omega)))
 have S5' := Hd hS
 clear hx5 hS hT hz R4 C4 K4 S4 hyl
 generalize hs5 : strOfNums y5 = s5 at *
 have HS5 := Hd hs5
 clear hs5
 have c5 := (uh C5').cell 3 rfl
 have f5 := (uh C5').fro 3
 have C5 := Hd ((uh C5').set 3 (.string s5) (by simp))
 have R5 := Hd ((uh R5').other (C := w3.heap.size) 3 (.string s5) (by omega))
 have K5 := Hd ((uh K5').setCell (p := ⟨w3.heap.size, 3, none⟩) (by show w.heap.size ≤ w3.heap.size; omega) (.string s5))
 have S5 := Hd ((uh S5').other (C := w3.heap.size) 3 (.string s5) (by omega))
 simp only [List.set_cons_zero, List.set_cons_succ] at C5
 clear C5' R5' K5' S5'
 go_wp2_with fail
 clear c5 f5
 generalize w5.setCell ⟨w3.heap.size, 3, none⟩ (.string s5) = w5s at *
 have hr5 := num1_range (uh S5).range
 refine (specNumberP 1 1 rfl (w.heap.size + 1) a cap l st5 _ (uh S5) (by omega) (by omega)).mono ?_
 rintro e w6 ⟨rfl, hS, hT, hz⟩
 obtain ⟨x6, st6, hx6⟩ : ∃ x s, numP 1 st5 = (x, s) := ⟨_, _, rfl⟩
 rw [hx6] at hS hr5 ⊢
 dsimp only at hS hr5 ⊢
 obtain ⟨n6, rfl⟩ : ∃ n : Nat, x6 = (n : Int) := ⟨x6.toNat, by omega⟩
 have HX6 := Hd hx6
 have R6 := Hd ((uh R5).kept hT (by show ¬ w.heap.size = w.heap.size + 1; omega))
 have C6 := Hd ((uh C5).kept hT (by show ¬ w3.heap.size = w.heap.size + 1; omega))
 have K6 := Hd ((uh K5).trans (hT.below (B := w.heap.size) (uh K5).size (fun k hk e => by subst e; omega)))
 have S6 := Hd hS
 clear hx6 hS hT hz R5 C5 K5 S5
 go_wp2_with fail
 refine (specTextP n6 (w.heap.size + 1) a cap l st6 _ (uh S6) (by omega)).mono ?_
 rintro e w7 ⟨rfl, hS, hT, hz⟩
 obtain ⟨y7, st7, hx7⟩ : ∃ x s, takeP n6 st6 = (x, s) := ⟨_, _, rfl⟩
 have hyl : y7.length ≤ n6 := by have := takeP_len n6 st6; rw [hx7] at this; exact this
 have hsz7 := strOfNums_small y7 (by omega)
 rw [hx7] at hS ⊢
 have HX7 := Hd hx7
 dsimp only at hS ⊢
 have R7' := Hd ((uh R6).kept hT (by show ¬ w.heap.size = w.heap.size + 1; omega))
 have C7' := Hd ((uh C6).kept hT (by show ¬ w3.heap.size = w.heap.size + 1; omega))
 have K7' := Hd ((uh K6).trans (hT.below (B := w.heap.size) (uh K6).size (fun k hk e => by subst e; omega)))
 have S7' := Hd hS
 clear hx7 hS hT hz R6 C6 K6 S6 hyl
 generalize hs7 : strOfNums y7 = s7 at *
 have HS7 := Hd hs7
 clear hs7
 have c7 := (uh C7').cell 4 rfl
 have f7 := (uh C7').fro 4
 have C7 := Hd ((uh C7').set 4 (.string s7) (by simp))
 have R7 := Hd ((uh R7').other (C := w3.heap.size) 4 (.string s7) (by omega))
 have K7 := Hd ((uh K7').setCell (p := ⟨w3.heap.size, 4, none⟩) (by show w.heap.size ≤ w3.heap.size; omega) (.string s7))
 have S7 := Hd ((uh S7').other (C := w3.heap.size) 4 (.string s7) (by omega))
 simp only [List.set_cons_zero, List.set_cons_succ] at C7
 clear C7' R7' K7' S7'
 go_wp2_with fail
 clear c7 f7
 generalize w7.setCell ⟨w3.heap.size, 4, none⟩ (.string s7) = w7s at *
 have E : Hid (cmdP (some l) = ((x1, x2, x3, s5, s7), st7)) := Hd (by
  have e5 : textP st3 = (y5, st5) := by unfold textP; rw [uh HX4]; dsimp only; rw [Int.toNat_natCast, uh HX5]
  have e7 : textP st5 = (y7, st7) := by unfold textP; rw [uh HX6]; dsimp only; rw [Int.toNat_natCast, uh HX7]
  simp only [cmdP, uh HX1, uh HX2, uh HX3, e5, e7, uh HS5, uh HS7])
 clear HX1 HX2 HX3 HX4 HX5 HX6 HX7 HS5 HS7 hr3 hr5
 obtain ⟨c0, c1, c2, c3, c4⟩ := Blk.c5 (uh C7)
 obtain ⟨r0, r1, r2, r3, r4⟩ := Blk.c5 (uh R7)
 have q0 := (uh R7).fro 0
 have q1 := (uh R7).fro 1
 have q2 := (uh R7).fro 2
 have q3 := (uh R7).fro 3
 have q4 := (uh R7).fro 4
 have hne1 : w.heap.size ≠ w3.heap.size := by omega
 have hne2 : w3.heap.size ≠ w.heap.size := by omega
 have hsz5' := hsz5
 have hsz7' := hsz7
 clear hsz5 hsz7
 cases st7 with
 | none =>
  have HV := Hd (show Value.tuple #[cmdVal (cmdP (some l)).1, .bool (doneP (cmdP (some l)).2 && cmdOK (cmdP (some l)).1.1 (cmdP (some l)).1.2.1 (cmdP (some l)).1.2.2.1 (cmdP (some l)).1.2.2.2.1 (cmdP (some l)).1.2.2.2.2)] = .tuple #[.agg #[.int .i64 x1, .int .i64 x2, .int .i64 x3, .string s5, .string s7], .bool false] by rw [uh E]; rfl)
  obtain ⟨p, h0, h1, h2, _, hlt, hp, _, _⟩ := uh S7
  go_big_region
  go_wp2_with fail
  refine bodyPost_ret (v := .tuple #[.agg #[.int .i64 x1, .int .i64 x2, .int .i64 x3, .string s5, .string s7], .bool false]) (by simp [results, Tryz.results41, go_sem, r0, r1, r2, r3, r4]) rfl ⟨?_, ?_⟩
  ·rw [uh HV]
  ·exact ((((((uh K7).setCell (p := ⟨w.heap.size, 0, none⟩) (Nat.le_refl _) _).setCell (p := ⟨w.heap.size, 1, none⟩) (Nat.le_refl _) _).setCell (p := ⟨w.heap.size, 2, none⟩) (Nat.le_refl _) _).setCell (p := ⟨w.heap.size, 3, none⟩) (Nat.le_refl _) _).setCell (p := ⟨w.heap.size, 4, none⟩) (Nat.le_refl _) _).drew
 | some rs =>
  obtain ⟨p, ⟨h0, h1, h2, _, hlt, hp, _, _⟩, hrs⟩ := uh S7
  by_cases hpl : p = l.length
  ·have HV := Hd (show Value.tuple #[cmdVal (cmdP (some l)).1, .bool (doneP (cmdP (some l)).2 && cmdOK (cmdP (some l)).1.1 (cmdP (some l)).1.2.1 (cmdP (some l)).1.2.2.1 (cmdP (some l)).1.2.2.2.1 (cmdP (some l)).1.2.2.2.2)] = .tuple #[.agg #[.int .i64 x1, .int .i64 x2, .int .i64 x3, .string s5, .string s7], .bool (cmdOK x1 x2 x3 s5 s7)] by rw [uh E, hrs]; dsimp only; rw [doneP_some]; simp [hpl, cmdVal])
   have hb0 : ((p : Int) == (l.length : Int)) = true := by rw [hpl]; simp
   have HH := Hd hsz5'
   have HH7 := Hd hsz7'
   clear hrs hpl hsz5' hsz7'
   go_region_held3 (fun wx => wx.cell? ⟨w3.heap.size, 0, none⟩ = some (.int .i64 x1) ∧ wx.cell? ⟨w3.heap.size, 1, none⟩ = some (.int .i64 x2) ∧ wx.cell? ⟨w3.heap.size, 2, none⟩ = some (.int .i64 x3) ∧ wx.cell? ⟨w3.heap.size, 3, none⟩ = some (.string s5) ∧ wx.cell? ⟨w3.heap.size, 4, none⟩ = some (.string s7) ∧ wx.cell? ⟨w.heap.size + 1, 1, none⟩ = some (.int .i64 p) ∧ wx.cell? ⟨w.heap.size + 1, 2, none⟩ = some (.bool false)) (go_keep)
    ((go_at_call 62; refine (specCommandOK_any x1 x2 x3 s5 s7 _ (uh HH) (uh HH7)).mono ?_; rintro e w9 ⟨rfl, hb9⟩; have T9 := Hd hb9; have g0 := ((uh C7).kept (T := fun _ => False) (Touch.ofBelow (w := w7s) ⟨hb9.os, hb9.tape, hb9.output, hb9.size, hb9.block⟩) (fun h => h)); have R9 := ((uh R7).kept (T := fun _ => False) (Touch.ofBelow (w := w7s) ⟨hb9.os, hb9.tape, hb9.output, hb9.size, hb9.block⟩) (fun h => h)); have k0 := g0.cell 0 rfl; have k1 := g0.cell 1 rfl; have k2 := g0.cell 2 rfl; have k3 := g0.cell 3 rfl; have k4 := g0.cell 4 rfl; have k5 := (hb9.cell (p := ⟨w.heap.size + 1, 1, none⟩) hlt).trans h1; have k6 := (hb9.cell (p := ⟨w.heap.size + 1, 2, none⟩) hlt).trans h2; have R9' := Hd R9; have u0 := R9.cell 0 rfl; have u1 := R9.cell 1 rfl; have u2 := R9.cell 2 rfl; have u3 := R9.cell 3 rfl; have u4 := R9.cell 4 rfl; have z0 := R9.fro 0; have z1 := R9.fro 1; have z2 := R9.fro 2; have z3 := R9.fro 3; have z4 := R9.fro 4; clear hb9 g0 R9))
   go_wp2_with fail
   refine bodyPost_ret (v := .tuple #[.agg #[.int .i64 x1, .int .i64 x2, .int .i64 x3, .string s5, .string s7], .bool (cmdOK x1 x2 x3 s5 s7)]) (by simp [results, Tryz.results41, go_sem, u0, u1, u2, u3, u4]) rfl ⟨?_, ?_⟩
   ·rw [uh HV]
   ·have K9 : Below w.heap.size w w9 := (uh K7).trans (Below.mono ⟨(uh T9).os, (uh T9).tape, (uh T9).output, (uh T9).size, (uh T9).block⟩ (uh K7).size)
    exact ((((K9.setCell (p := ⟨w.heap.size, 0, none⟩) (Nat.le_refl _) _).setCell (p := ⟨w.heap.size, 1, none⟩) (Nat.le_refl _) _).setCell (p := ⟨w.heap.size, 2, none⟩) (Nat.le_refl _) _).setCell (p := ⟨w.heap.size, 3, none⟩) (Nat.le_refl _) _).setCell (p := ⟨w.heap.size, 4, none⟩) (Nat.le_refl _) _
  ·have HV := Hd (show Value.tuple #[cmdVal (cmdP (some l)).1, .bool (doneP (cmdP (some l)).2 && cmdOK (cmdP (some l)).1.1 (cmdP (some l)).1.2.1 (cmdP (some l)).1.2.2.1 (cmdP (some l)).1.2.2.2.1 (cmdP (some l)).1.2.2.2.2)] = .tuple #[.agg #[.int .i64 x1, .int .i64 x2, .int .i64 x3, .string s5, .string s7], .bool false] by rw [uh E, hrs]; dsimp only; rw [doneP_some]; simp [cmdVal]; omega)
   have hb0 : ((p : Int) == (l.length : Int)) = false := by simp; omega
   clear hrs hpl
   go_big_region
   go_wp2_with fail
   refine bodyPost_ret (v := .tuple #[.agg #[.int .i64 x1, .int .i64 x2, .int .i64 x3, .string s5, .string s7], .bool false]) (by simp [results, Tryz.results41, go_sem, r0, r1, r2, r3, r4]) rfl ⟨?_, ?_⟩
   ·rw [uh HV]
   ·exact ((((((uh K7).setCell (p := ⟨w.heap.size, 0, none⟩) (Nat.le_refl _) _).setCell (p := ⟨w.heap.size, 1, none⟩) (Nat.le_refl _) _).setCell (p := ⟨w.heap.size, 2, none⟩) (Nat.le_refl _) _).setCell (p := ⟨w.heap.size, 3, none⟩) (Nat.le_refl _) _).setCell (p := ⟨w.heap.size, 4, none⟩) (Nat.le_refl _) _).drew
def cmdRead (l : List Int) : (Int × Int × Int × ByteArray × ByteArray) × Int :=
 if 65536 < l.length then ((0, 0, 0, ⟨#[]⟩, ⟨#[]⟩), 2)
 else if doneP (cmdP (some l)).2 && cmdOK (cmdP (some l)).1.1 (cmdP (some l)).1.2.1 (cmdP (some l)).1.2.2.1 (cmdP (some l)).1.2.2.2.1 (cmdP (some l)).1.2.2.2.2 then ((cmdP (some l)).1, 0) else ((0, 0, 0, ⟨#[]⟩, ⟨#[]⟩), 3)
def zeroC : Int × Int × Int × ByteArray × ByteArray := (0, 0, 0, ⟨#[]⟩, ⟨#[]⟩)
theorem cmdP_size {st : Option (List Int)} (h : rangeP st) : (cmdP st).1.2.2.2.1.size ≤ maxLen ∧ (cmdP st).1.2.2.2.2.size ≤ maxLen := by
 have r1 : rangeP (numP 1 st).2 := (takeP_range h 1).2
 have r2 : rangeP (numP 2 (numP 1 st).2).2 := (takeP_range r1 2).2
 have r3 : rangeP (numP 2 (numP 2 (numP 1 st).2).2).2 := (takeP_range r2 2).2
 have q1 : rangeP (numP 1 (numP 2 (numP 2 (numP 1 st).2).2).2).2 := (takeP_range r3 1).2
 have r4 : rangeP (textP (numP 2 (numP 2 (numP 1 st).2).2).2).2 := (takeP_range q1 _).2
 have l4 := textP_len r3
 have l5 := textP_len r4
 constructor
 ·show (strOfNums (textP (numP 2 (numP 2 (numP 1 st).2).2).2).1).size ≤ maxLen
  exact strOfNums_small _ (by omega)
 ·show (strOfNums (textP (textP (numP 2 (numP 2 (numP 1 st).2).2).2).2).1).size ≤ maxLen
  exact strOfNums_small _ (by omega)


theorem implReadCommand_any (a : Option Addr) (cap : Nat) (l : List Int) (w : World) (h : RdV w w.heap.size (.slice a l.length cap) l) :
  Calls Tryz.prog 52 #[.slice a l.length cap] w fun e w' => e = .returned (.tuple #[cmdVal (cmdRead l).1, .int .i64 (cmdRead l).2]) ∧ Below w.heap.size w w' := by
 have hm : (l.length : Int) ≤ 9223372036854775807 := by
  obtain ⟨_, _, _, h1, h2, _⟩ := h; unfold maxLen at h2; omega
 have hrg : ∀ i, 0 ≤ l.getD i 0 ∧ l.getD i 0 ≤ 255 := by obtain ⟨_, _, _, _, _, _, hr⟩ := h; exact hr
 have HSZ := Hd (cmdP_size (st := some l) hrg)
 have H := Hd h
 have B0 := Hd (bal w (.cells #[.int .i64 0, .int .i64 0, .int .i64 0, .string ⟨#[]⟩, .string ⟨#[]⟩] 77))
 have R0 := Hd (Blk.new w #[.int .i64 0, .int .i64 0, .int .i64 0, .string ⟨#[]⟩, .string ⟨#[]⟩] 77 w.heap.size rfl)
 clear h hrg
 by_cases hl : 65536 < l.length
 ·have E := Hd (show cmdRead l = (zeroC, 2) by simp [cmdRead, hl, zeroC])
  go_enter Tryz.func52, Tryz.ntmps52
  go_wp2_with fail
  refine bodyPost_ret (v := .tuple #[.agg #[.int .i64 0, .int .i64 0, .int .i64 0, .string ⟨#[]⟩, .string ⟨#[]⟩], .int .i64 2]) (by simp [results, Tryz.results52, go_sem]) rfl ⟨by rw [uh E]; rfl, ?_⟩
  exact uh B0
 ·have E := Hd (show cmdRead l = _ by unfold cmdRead; rw [if_neg hl])
  go_enter Tryz.func52, Tryz.ntmps52
  go_wp2_with fail
  have R1 := Hd ((uh R0).alloc (.cells #[.slice a l.length cap, .bool false] 124))
  have B1 := Hd ((uh B0).alloc (by simp) (.cells #[.slice a l.length cap, .bool false] 124))
  have N1 : Hid (((w.alloc (.cells #[.int .i64 0, .int .i64 0, .int .i64 0, .string ⟨#[]⟩, .string ⟨#[]⟩] 77)).alloc (.cells #[.slice a l.length cap, .bool false] 124)).heap.size = w.heap.size + 2) := Hd (by simp)
  have S1 : Hid (Rd ((w.alloc (.cells #[.int .i64 0, .int .i64 0, .int .i64 0, .string ⟨#[]⟩, .string ⟨#[]⟩] 77)).alloc (.cells #[.slice a l.length cap, .bool false] 124)) (w.heap.size + 1) (some l)) := Hd (by
   have hB := Blk.new (w.alloc (.cells #[.int .i64 0, .int .i64 0, .int .i64 0, .string ⟨#[]⟩, .string ⟨#[]⟩] 77)) #[.slice a l.length cap, .bool false] 124 (w.heap.size + 1) (by simp)
   refine ⟨⟨_, hB.cell 0 rfl, ?_⟩, hB.cell 1 rfl, hB.fro, hB.1⟩
   have h1 := (uh H).kept (Nat.le_refl _) (((Touch.refl (fun _ => False) w).alloc (.cells #[.int .i64 0, .int .i64 0, .int .i64 0, .string ⟨#[]⟩, .string ⟨#[]⟩] 77)).alloc (.cells #[.slice a l.length cap, .bool false] 124)) (fun _ _ h => h)
   obtain ⟨a', c', hv, q1, q2, hc, hr⟩ := h1
   refine ⟨a', c', hv, q1, q2, ?_, hr⟩
   rcases hc with h0 | ⟨c, off, ha, hlt, hcell⟩
   ·exact .inl h0
   ·exact .inr ⟨c, off, ha, by omega, hcell⟩)
  clear H R0 B0
  generalize (w.alloc (.cells #[.int .i64 0, .int .i64 0, .int .i64 0, .string ⟨#[]⟩, .string ⟨#[]⟩] 77)).alloc (.cells #[.slice a l.length cap, .bool false] 124) = w1 at *
  refine (implCommand_any (w.heap.size + 1) (some l) w1 (uh S1)).mono ?_
  rintro e w2 ⟨rfl, hR2, hT2⟩
  have R2 := Hd ((uh R1).kept hT2 (by show ¬ w.heap.size = w.heap.size + 1; omega))
  have B2 := Hd ((uh B1).trans (hT2.below (B := w.heap.size) (uh B1).size (fun k hk e => by subst e; omega)))
  have hz2 : w.heap.size + 2 ≤ w2.heap.size := by have := hT2.size; have := uh N1; omega
  have S2 := Hd hR2
  clear hR2 hT2 R1 B1 N1 S1
  generalize hcp : cmdP (some l) = cp at *
  obtain ⟨⟨x1, x2, x3, s5, s7⟩, st⟩ := cp
  have HC := Hd hcp
  clear hcp
  dsimp only [cmdVal] at E HSZ S2 ⊢
  have C3 := Hd (Blk.new w2 #[.int .i64 x1, .int .i64 x2, .int .i64 x3, .string s5, .string s7] 77 w2.heap.size rfl)
  have R3 := Hd ((uh R2).alloc (.cells #[.int .i64 x1, .int .i64 x2, .int .i64 x3, .string s5, .string s7] 77))
  have B3 := Hd ((uh B2).alloc (uh B2).size (.cells #[.int .i64 x1, .int .i64 x2, .int .i64 x3, .string s5, .string s7] 77))
  have S3 := Hd ((uh S2).alloc (.cells #[.int .i64 x1, .int .i64 x2, .int .i64 x3, .string s5, .string s7] 77))
  go_wp2_with fail
  clear R2 B2 S2
  generalize w2.alloc (.cells #[.int .i64 x1, .int .i64 x2, .int .i64 x3, .string s5, .string s7] 77) = w3 at *
  refine (done_any (w.heap.size + 1) st w3 (uh S3)).mono ?_
  rintro e w3' ⟨rfl, rfl⟩
  obtain ⟨c0, c1, c2, c3, c4⟩ := Blk.c5 (uh C3)
  cases hd : doneP st with
  | false =>
   rw [hd] at E
   have HD := Hd hd
   clear hd
   have q0 := (uh R3).fro 0
   have q1 := (uh R3).fro 1
   have q2 := (uh R3).fro 2
   have q3 := (uh R3).fro 3
   have q4 := (uh R3).fro 4
   obtain ⟨r0, r1, r2, r3, r4⟩ := Blk.c5 (uh R3)
   go_wp2_with fail
   have F := ((((((uh R3).set 0 (.int .i64 0) (by simp)).set 1 (.int .i64 0) (by simp)).set 2 (.int .i64 0) (by simp)).set 3 (.string ⟨#[]⟩) (by simp)).set 4 (.string ⟨#[]⟩) (by simp))
   obtain ⟨e0, e1, e2, e3, e4⟩ := Blk.c5 F
   refine bodyPost_ret (v := .tuple #[.agg #[.int .i64 0, .int .i64 0, .int .i64 0, .string ⟨#[]⟩, .string ⟨#[]⟩], .int .i64 3]) (by simp [results, Tryz.results52, go_sem, e0, e1, e2, e3, e4]) rfl ⟨by rw [uh E]; rfl, ?_⟩
   exact ((((((uh B3).setCell (p := ⟨w.heap.size, 0, none⟩) (Nat.le_refl _) _).setCell (p := ⟨w.heap.size, 1, none⟩) (Nat.le_refl _) _).setCell (p := ⟨w.heap.size, 2, none⟩) (Nat.le_refl _) _).setCell (p := ⟨w.heap.size, 3, none⟩) (Nat.le_refl _) _).setCell (p := ⟨w.heap.size, 4, none⟩) (Nat.le_refl _) _)
  | true =>
   rw [hd] at E
   have HD := Hd hd
   clear hd
   go_wp2_with fail
   refine (implCommandOK_any x1 x2 x3 s5 s7 _ (uh HSZ).1 (uh HSZ).2).mono ?_
   rintro e w4 ⟨rfl, hb4⟩
   have R4 := Hd ((uh R3).below hb4)
   have C4 := Hd ((uh C3).below hb4)
   have B4 := hbt B3 hb4
   clear hb4 R3 C3 B3 S3 c0 c1 c2 c3 c4
   obtain ⟨c0, c1, c2, c3, c4⟩ := Blk.c5 (uh C4)
   have q0 := (uh R4).fro 0
   have q1 := (uh R4).fro 1
   have q2 := (uh R4).fro 2
   have q3 := (uh R4).fro 3
   have q4 := (uh R4).fro 4
   obtain ⟨r0, r1, r2, r3, r4⟩ := Blk.c5 (uh R4)
   have hne1 : w.heap.size ≠ w2.heap.size := by omega
   have hne2 : w2.heap.size ≠ w.heap.size := by omega
   generalize cmdOK x1 x2 x3 s5 s7 = ok at *
   cases ok
   ·go_wp2_with fail
    have F := ((((((uh R4).set 0 (.int .i64 0) (by simp)).set 1 (.int .i64 0) (by simp)).set 2 (.int .i64 0) (by simp)).set 3 (.string ⟨#[]⟩) (by simp)).set 4 (.string ⟨#[]⟩) (by simp))
    obtain ⟨e0, e1, e2, e3, e4⟩ := Blk.c5 F
    refine bodyPost_ret (v := .tuple #[.agg #[.int .i64 0, .int .i64 0, .int .i64 0, .string ⟨#[]⟩, .string ⟨#[]⟩], .int .i64 3]) (by simp [results, Tryz.results52, go_sem, e0, e1, e2, e3, e4]) rfl ⟨by rw [uh E]; rfl, ?_⟩
    exact ((((((uh B4).setCell (p := ⟨w.heap.size, 0, none⟩) (Nat.le_refl _) _).setCell (p := ⟨w.heap.size, 1, none⟩) (Nat.le_refl _) _).setCell (p := ⟨w.heap.size, 2, none⟩) (Nat.le_refl _) _).setCell (p := ⟨w.heap.size, 3, none⟩) (Nat.le_refl _) _).setCell (p := ⟨w.heap.size, 4, none⟩) (Nat.le_refl _) _)
   ·go_wp2_with fail
    have F := ((((((uh R4).set 0 (.int .i64 x1) (by simp)).set 1 (.int .i64 x2) (by simp)).set 2 (.int .i64 x3) (by simp)).set 3 (.string s5) (by simp)).set 4 (.string s7) (by simp))
    obtain ⟨e0, e1, e2, e3, e4⟩ := Blk.c5 F
    refine bodyPost_ret (v := .tuple #[.agg #[.int .i64 x1, .int .i64 x2, .int .i64 x3, .string s5, .string s7], .int .i64 0]) (by simp [results, Tryz.results52, go_sem, e0, e1, e2, e3, e4]) rfl ⟨by rw [uh E]; rfl, ?_⟩
    exact ((((((uh B4).setCell (p := ⟨w.heap.size, 0, none⟩) (Nat.le_refl _) _).setCell (p := ⟨w.heap.size, 1, none⟩) (Nat.le_refl _) _).setCell (p := ⟨w.heap.size, 2, none⟩) (Nat.le_refl _) _).setCell (p := ⟨w.heap.size, 3, none⟩) (Nat.le_refl _) _).setCell (p := ⟨w.heap.size, 4, none⟩) (Nat.le_refl _) _)
end Go.Proofs.YtbchnheinnileaaGreatDoor
namespace Go.Proofs.YtbchnheinnileaaGreatDoor
set_option maxRecDepth 100000
set_option maxHeartbeats 8000000
open Go.ChangeShapes Go.WideShapes Go.ChangeAt Go.RowKit
set_option linter.unusedVariables false
structure En where
 t : Int
 k : Int
 d : ByteArray
deriving Inhabited
def enC (f : En) : List Value := [.int .i64 f.t, .int .i64 f.k, .string f.d]
def ensC (l : List En) : List Value := l.flatMap enC
def Ens (w : World) (v : Value) (l : List En) : Prop :=
 ∃ a cap, v = .slice a l.length cap ∧ l.length ≤ cap ∧ cap ≤ maxLen ∧ (l.length = 0 ∨ ∃ b off, a = some ⟨b, off, none⟩ ∧ b < w.heap.size ∧ ∀ i, i < l.length → w.cell? ⟨b, off + i * 3, none⟩ = some (.int .i64 (l.getD i default).t) ∧ w.cell? ⟨b, off + i * 3 + 1, none⟩ = some (.int .i64 (l.getD i default).k) ∧ w.cell? ⟨b, off + i * 3 + 2, none⟩ = some (.string (l.getD i default).d))
theorem Ens.below {w w' : World} {v : Value} {l : List En} (h : Ens w v l) (hb : Below w.heap.size w w') : Ens w' v l := by
 obtain ⟨a, cap, hv, hn, hm, hc⟩ := h
 refine ⟨a, cap, hv, hn, hm, ?_⟩
 rcases hc with h0 | ⟨b, off, ha, hlt, hc⟩
 ·exact .inl h0
 ·exact .inr ⟨b, off, ha, Nat.lt_of_lt_of_le hlt hb.size, fun i hi => ⟨(hb.cell (p := ⟨b, off + i * 3, none⟩) hlt).trans (hc i hi).1, (hb.cell (p := ⟨b, off + i * 3 + 1, none⟩) hlt).trans (hc i hi).2.1, (hb.cell (p := ⟨b, off + i * 3 + 2, none⟩) hlt).trans (hc i hi).2.2⟩⟩
theorem info3 : (Tryz.prog.info? 3).map (fun i => (i.zero, i.size, i.bytes)) = some (some (.int .i64 0), 1, 8) := by kernel_rfl
def Ints (w : World) (v : Value) (l : List Int) : Prop :=
 ∃ a cap, v = .slice a l.length cap ∧ l.length ≤ maxLen ∧ (l.length = 0 ∨ ∃ b off, a = some ⟨b, off, none⟩ ∧ b < w.heap.size ∧ ∀ i, i < l.length → w.cell? ⟨b, off + i, none⟩ = some (.int .i64 (l.getD i 0)))
theorem Ints.kept {T : Nat → Prop} {w w' : World} {v : Value} {l : List Int} (h : Ints w v l) (ht : Touch T w w') (hn : ∀ k, v.ownBlock = some k → ¬ T k) : Ints w' v l := by
 obtain ⟨a, cap, rfl, hm, hc⟩ := h
 refine ⟨a, cap, rfl, hm, ?_⟩
 rcases hc with h0 | ⟨b, off, rfl, hlt, hcell⟩
 ·exact .inl h0
 ·exact .inr ⟨b, off, rfl, Nat.lt_of_lt_of_le hlt ht.size, fun i hi => (ht.cell (p := ⟨b, off + i, none⟩) hlt (hn b rfl)).trans (hcell i hi)⟩
theorem Ints.below {w w' : World} {v : Value} {l : List Int} (h : Ints w v l) (hb : Below w.heap.size w w') : Ints w' v l := h.kept (T := fun _ => False) (Touch.ofBelow hb) (fun _ _ h => h)

theorem drewN_two (w : World) (n m : Nat) : (w.drewN n).drewN m = w.drewN (n + m) := by simp [World.drewN, Nat.add_assoc]
def OwnI (B : Nat) (w : World) (v : Value) (l : List Int) : Prop := w.ownsRow B 3 1 v l.length (l.map (Value.int .i64))
theorem OwnI.mono {B B' : Nat} {w : World} {v : Value} {l : List Int} (h : OwnI B w v l) (hB : B' ≤ B) : OwnI B' w v l := by
 obtain ⟨hl, hc⟩ := h
 refine ⟨hl, ?_⟩
 rcases hc with hn | ⟨g, cap, cur, hv, hb, rest⟩
 ·exact .inl hn
 ·exact .inr ⟨g, cap, cur, hv, by omega, rest⟩
theorem OwnI.empty (w : World) (B X : Nat) (hX : w.heap.size = X) (hB : B ≤ X) : OwnI B (w.alloc (.cells #[] 3)) (.slice (some ⟨X, 0, none⟩) 0 0) [] := by
 subst hX
 exact World.ownsRow_made w #[] 0 hB (by unfold maxLen; omega) rfl
theorem ret_two_b {a : Value} {x y : Bool} (h : x = y) : Ending.returned (.tuple #[a, .bool x]) = .returned (.tuple #[a, .bool y]) := by rw [h]
theorem bytesI_bAt (s : ByteArray) (k : Nat) : (bytesI s).getD k 0 = bAt s k := by
 unfold bytesI bAt
 by_cases h : k < s.data.toList.length
 ·rw [List.getD_eq_getElem?_getD, List.getElem?_map, List.getElem?_eq_getElem h, List.getD_eq_getElem?_getD, List.getElem?_eq_getElem h]; rfl
 ·rw [List.getD_eq_getElem?_getD, List.getElem?_map, List.getElem?_eq_none (by omega), List.getD_eq_getElem?_getD, List.getElem?_eq_none (by omega)]; rfl
theorem bytesI_take (s : ByteArray) (k : Nat) (h : k < s.size) : (bytesI s).take (k + 1) = (bytesI s).take k ++ [bAt s k] := by
 have hl : k < (bytesI s).length := by rw [bytesI_len]; exact h
 rw [List.take_succ_eq_append_getElem hl]
 congr 1
 rw [← bytesI_bAt, List.getD_eq_getElem?_getD, List.getElem?_eq_getElem hl]; rfl

def LaidI (w : World) (g cap : Nat) (f : Nat → Int) (n : Nat) : Prop := ∃ cur : Array Value, w.heap[g]? = some (.cells cur 3 (0, 0)) ∧ cur.size = cap ∧ n ≤ cap ∧ ∀ j, j < n → cur[j]? = some (.int .i64 (f j))
theorem LaidI.set {w : World} {g cap n : Nat} {f f' : Nat → Int} (h : LaidI w g cap f n) (k : Nat) (x : Int) (hk : k < n) (hf : f' k = x) (ho : ∀ j, j ≠ k → f' j = f j) : LaidI (w.setCell ⟨g, k, none⟩ (.int .i64 x)) g cap f' n := by
 obtain ⟨cur, hg, hs, hn, hc⟩ := h
 refine ⟨cur.setIfInBounds k (.int .i64 x), ?_, by simpa using hs, hn, fun j hj => ?_⟩
 ·have hlt := (Array.getElem?_eq_some_iff.1 hg).1
  simp only [World.setCell, Array.getElem?_modify]
  simp [hg]
 ·by_cases e : j = k
  ·subst e; rw [Array.getElem?_setIfInBounds_self_of_lt (by omega), hf]
  ·rw [Array.getElem?_setIfInBounds_ne (by omega), hc j hj, ho j e]
theorem LaidI.cell {w : World} {g cap n : Nat} {f : Nat → Int} (h : LaidI w g cap f n) (j : Nat) (hj : j < n) : w.cell? ⟨g, j, none⟩ = some (.int .i64 (f j)) ∧ w.frozen? ⟨g, j, none⟩ = false := by
 obtain ⟨cur, hg, hs, hn, hc⟩ := h
 refine ⟨?_, by simp [World.frozen?, hg]⟩
 rw [cell_of_row w g j cur 3 (0, 0) hg]
 exact hc j hj
theorem LaidI.own {B : Nat} {w : World} {g cap : Nat} {f : Nat → Int} {l : List Int} (h : LaidI w g cap f l.length) (hf : ∀ j, j < l.length → f j = l.getD j 0) (hB : B ≤ g) (hm : cap ≤ maxLen) : OwnI B w (.slice (some ⟨g, 0, none⟩) l.length cap) l := by
 obtain ⟨cur, hg, hs, hn, hc⟩ := h
 refine ⟨by simp, .inr ⟨g, cap, cur, rfl, hB, hg, hn, hm, by simpa using hs, ?_⟩⟩
 apply List.ext_getElem?
 intro j
 rw [Nat.mul_one, List.getElem?_take, Array.getElem?_toList, List.getElem?_map]
 by_cases hj : j < l.length
 ·rw [if_pos hj, hc j hj, hf j hj, List.getD_eq_getElem?_getD, List.getElem?_eq_getElem hj]; rfl
 ·rw [if_neg hj, List.getElem?_eq_none (by omega)]; rfl
theorem LaidI.of {B : Nat} {w : World} {g cap n : Nat} {l : List Int} (h : OwnI B w (.slice (some ⟨g, 0, none⟩) n cap) l) : LaidI w g cap (fun j => l.getD j 0) l.length ∧ cap ≤ maxLen ∧ B ≤ g ∧ n = l.length ∧ g < w.heap.size := by
 obtain ⟨hl, hc⟩ := h
 rcases hc with ⟨hv, _⟩ | ⟨g', cap', cur, hv, hb, hg, hn, hm, hs, ht⟩
 ·cases hv
 ·cases hv
  refine ⟨⟨cur, hg, by simpa using hs, hn, fun j hj => ?_⟩, hm, hb, rfl, (Array.getElem?_eq_some_iff.1 hg).1⟩
  have e := congrArg (fun z : List Value => z[j]?) ht
  simp only [Nat.mul_one, List.getElem?_take, if_pos hj, Array.getElem?_toList, List.getElem?_map] at e
  rw [e, List.getElem?_eq_getElem hj]
  show _ = some (Value.int .i64 (l.getD j 0))
  rw [List.getD_eq_getElem?_getD, List.getElem?_eq_getElem hj]; rfl
theorem OwnI.shape {B : Nat} {w : World} {v : Value} {l : List Int} (h : OwnI B w v l) : (v = .slice none 0 0 ∧ l = []) ∨ ∃ g cap, v = .slice (some ⟨g, 0, none⟩) l.length cap := by
 rcases h.2 with ⟨hv, h0⟩ | ⟨g, cap, cur, hv, _⟩
 ·exact .inl ⟨hv, List.eq_nil_of_length_eq_zero h0⟩
 ·exact .inr ⟨g, cap, hv⟩
theorem OwnI.lt {B : Nat} {w : World} {v : Value} {l : List Int} (h : OwnI B w v l) : ∀ k, v.ownBlock = some k → B ≤ k ∧ k < w.heap.size := World.ownsRow.lt h
theorem OwnI.kept {T : Nat → Prop} {B : Nat} {w w' : World} {v : Value} {l : List Int} (h : OwnI B w v l) (ht : Touch T w w') (hn : ∀ k, v.ownBlock = some k → ¬ T k) : OwnI B w' v l := by
 obtain ⟨hl, hc⟩ := h
 refine ⟨hl, ?_⟩
 rcases hc with h0 | ⟨g, cap, cur, rfl, hb, hgg, rest⟩
 ·exact .inl h0
 ·exact .inr ⟨g, cap, cur, rfl, hb, (ht.block g (Array.getElem?_eq_some_iff.1 hgg).1 (hn g rfl)).trans hgg, rest⟩
theorem OwnI.below {B : Nat} {w w' : World} {v : Value} {l : List Int} (h : OwnI B w v l) (hb : Below w.heap.size w w') : OwnI B w' v l := h.kept (T := fun _ => False) (Touch.ofBelow hb) (fun _ _ h => h)
theorem OwnI.drewN {B : Nat} {w : World} {v : Value} {l : List Int} (h : OwnI B w v l) (n : Nat) : OwnI B (w.drewN n) v l := h.kept (T := fun _ => False) ((Touch.refl _ _).drewN n) (fun _ _ h => h)
theorem OwnI.ints {B : Nat} {w : World} {v : Value} {l : List Int} (h : OwnI B w v l) : Ints w v l := by
 rcases h.shape with ⟨rfl, rfl⟩ | ⟨g, cap, rfl⟩
 ·exact ⟨none, 0, rfl, by unfold maxLen; simp, .inl rfl⟩
 ·obtain ⟨hL, hm, hB, _, hlt⟩ := LaidI.of h
  have hn : l.length ≤ cap := by obtain ⟨_, _, _, hn, _⟩ := hL; exact hn
  exact ⟨_, _, rfl, by omega, .inr ⟨g, 0, rfl, hlt, fun i hi => by rw [Nat.zero_add]; exact (hL.cell i hi).1⟩⟩
end Go.Proofs.YtbchnheinnileaaGreatDoor
