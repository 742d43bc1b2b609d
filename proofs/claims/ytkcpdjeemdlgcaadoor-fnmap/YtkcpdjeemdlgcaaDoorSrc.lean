/- The source of choices of the laws: what byte, next and bytes may answer, whatever the code. -/
import Derived.Test.YtkcpdjeemdlgcaaDoorBytes
import Derived.StillTail
import Derived.Deep.RegionHeld3
namespace Go.Proofs.YtkcpdjeemdlgcaaDoor
open Go.ChangeShapes Go.WideShapes Go.ChangeAt Go.RowKit
set_option linter.unusedVariables false

theorem wrapS (n : Int) (h0 : 0 ≤ n) (h1 : n < 9223372036854775808) : IntKind.i64.wrap n = n := by
  simp only [IntKind.wrap, IntKind.bits, IntKind.signed]
  simp
  omega
/-- A source lies in block b: the code's bytes l (in a block below b), a place of at most M, a seed in range. -/
def Src (w : World) (b : Nat) (a : Option Addr) (cap : Nat) (l : List Int) (M : Int) : Prop :=
  ∃ p s : Int, 0 ≤ p ∧ p ≤ M ∧ 0 ≤ s ∧ s < 2147483648 ∧ w.cell? ⟨b, 0, none⟩ = some (.slice a l.length cap) ∧ w.cell? ⟨b, 1, none⟩ = some (.int .i64 p) ∧ w.cell? ⟨b, 2, none⟩ = some (.int .i64 s) ∧
    (∀ j, w.frozen? ⟨b, j, none⟩ = false) ∧ b < w.heap.size ∧
    (l.length = 0 ∨ ∃ c off, a = some ⟨c, off, none⟩ ∧ c < b ∧ ∀ i, i < l.length → w.cell? ⟨c, off + i, none⟩ = some (.int .u8 (l.getD i 0))) ∧ (∀ i, 0 ≤ l.getD i 0 ∧ l.getD i 0 ≤ 255) ∧ l.length ≤ 2097152

theorem Src.mono {w : World} {b : Nat} {a : Option Addr} {cap : Nat} {l : List Int} {M M' : Int} (h : Src w b a cap l M) (hm : M ≤ M') : Src w b a cap l M' := by
  obtain ⟨p, s, h1, h2, h⟩ := h
  exact ⟨p, s, h1, by omega, h⟩
theorem Src.grown {w w' : World} {b : Nat} {a : Option Addr} {cap : Nat} {l : List Int} {M : Int} {r : Option Nat} (h : Src w b a cap l M) (hg : w.grownBy w' r) (hr : ∀ k, r = some k → b < k) : Src w' b a cap l M := by
  obtain ⟨p, s, h1, h2, h3, h4, c0, c1, c2, hf, hb, hc, hrg, hl⟩ := h
  have hne : some b ≠ r := fun e => by have := hr b e.symm; omega
  refine ⟨p, s, h1, h2, h3, h4, (hg.cell_far ⟨b, 0, none⟩ hb hne).trans c0, (hg.cell_far ⟨b, 1, none⟩ hb hne).trans c1, (hg.cell_far ⟨b, 2, none⟩ hb hne).trans c2, fun j => (hg.frozen_far ⟨b, j, none⟩ hb hne).trans (hf j), Nat.lt_of_lt_of_le hb hg.size, ?_, hrg, hl⟩
  rcases hc with h0 | ⟨c, off, ha, hlt, hcell⟩
  · exact .inl h0
  · refine .inr ⟨c, off, ha, hlt, fun i hi => ?_⟩
    rw [hg.cell_far ⟨c, off + i, none⟩ (by simpa using Nat.lt_trans hlt hb) (fun e => by have := hr c e.symm; omega)]
    exact hcell i hi
theorem Src.drewN {w : World} {b : Nat} {a : Option Addr} {cap : Nat} {l : List Int} {M : Int} (h : Src w b a cap l M) (n : Nat) : Src (w.drewN n) b a cap l M := h.grown (r := none) ⟨rfl, rfl, rfl, Nat.le_refl _, fun _ _ _ => rfl⟩ (fun k e => by cases e)

/-- What a call on the source leaves: nothing but block b is other than it was. -/
def OnlyAt (b : Nat) (w w' : World) : Prop := w'.heap.size = w.heap.size ∧ w.grownBy w' (some b)
theorem OnlyAt.refl (b : Nat) (w : World) : OnlyAt b w w := ⟨rfl, World.grownBy.refl _ _⟩
theorem OnlyAt.trans {b : Nat} {w w' w'' : World} (h : OnlyAt b w w') (k : OnlyAt b w' w'') : OnlyAt b w w'' := by
  refine ⟨k.1.trans h.1, ?_⟩
  have h1 := h.2
  have h2 := k.2
  exact ⟨h2.os.trans h1.os, h2.tape.trans h1.tape, h2.output.trans h1.output, Nat.le_trans h1.size h2.size, fun j hj hne => (h2.block j (by rw [h.1]; exact hj) hne).trans (h1.block j hj hne)⟩
theorem OnlyAt.set (b : Nat) (w : World) (j : Nat) (v : Value) : OnlyAt b w (w.setCell ⟨b, j, none⟩ v) := by
  refine ⟨by simp, ⟨rfl, rfl, rfl, by simp, fun k hk hne => Below.heap_setCell w ⟨b, j, none⟩ v k (fun e => hne (by rw [e]))⟩⟩
theorem OnlyAt.drewN (b : Nat) (w : World) (n : Nat) : OnlyAt b w (w.drewN n) := ⟨rfl, ⟨rfl, rfl, rfl, Nat.le_refl _, fun _ _ _ => rfl⟩⟩
theorem OnlyAt.below {b B : Nat} {w0 w w' : World} (h : OnlyAt b w w') (hb : Below B w0 w) (hB : B ≤ b) (hw : B ≤ w.heap.size) : Below B w0 w' := hb.grown h.2 hw (fun k e => by cases e; exact hB)

theorem Src.step2 {w : World} {b : Nat} {a : Option Addr} {cap : Nat} {l : List Int} {M : Int} {s' : Int} (h : Src w b a cap l M) (hs : 0 ≤ s') (hs2 : s' < 2147483648) :
    Src (w.setCell ⟨b, 2, none⟩ (.int .i64 s')) b a cap l M := by
  obtain ⟨p, s0, h1, h2, h3, h4, c0, c1, c2, hf, hb, hc, hrg, hl⟩ := h
  refine ⟨p, s', h1, h2, hs, hs2, ?_, ?_, ?_, fun j => by simpa using hf j, by simpa using hb, ?_, hrg, hl⟩
  · rw [World.cell?_setCell_other _ _ _ _ (by simp)]; exact c0
  · rw [World.cell?_setCell_other _ _ _ _ (by simp)]; exact c1
  · exact World.cell?_setCell_same w _ _ c2
  · rcases hc with h0 | ⟨c, off, ha, hlt, hcell⟩
    · exact .inl h0
    · refine .inr ⟨c, off, ha, hlt, fun i hi => ?_⟩
      rw [World.cell?_setCell_other _ _ _ _ (fun e => by have := congrArg Addr.block e; simp at this; omega)]
      exact hcell i hi
theorem Src.step1 {w : World} {b : Nat} {a : Option Addr} {cap : Nat} {l : List Int} {M : Int} {p' : Int} (h : Src w b a cap l M) (hp : 0 ≤ p') (hp2 : p' ≤ M + 1) :
    Src (w.setCell ⟨b, 1, none⟩ (.int .i64 p')) b a cap l (M + 1) := by
  obtain ⟨_, s, h1, h2, h3, h4, c0, c1, c2, hf, hb, hc, hrg, hl⟩ := h
  refine ⟨p', s, hp, hp2, h3, h4, ?_, ?_, ?_, fun j => by simpa using hf j, by simpa using hb, ?_, hrg, hl⟩
  · rw [World.cell?_setCell_other _ _ _ _ (by simp)]; exact c0
  · exact World.cell?_setCell_same w _ _ c1
  · rw [World.cell?_setCell_other _ _ _ _ (by simp)]; exact c2
  · rcases hc with h0 | ⟨c, off, ha, hlt, hcell⟩
    · exact .inl h0
    · refine .inr ⟨c, off, ha, hlt, fun i hi => ?_⟩
      rw [World.cell?_setCell_other _ _ _ _ (fun e => by have := congrArg Addr.block e; simp at this; omega)]
      exact hcell i hi

set_option maxRecDepth 100000 in
set_option maxHeartbeats 1000000 in
theorem srcByte_any (w : World) (b : Nat) (a : Option Addr) (cap : Nat) (l : List Int) (M : Int) (h : Src w b a cap l M) (hM : M ≤ 1000000000) :
    Calls Tryd.prog 108 #[.pointer (some ⟨b, 0, none⟩)] w fun e w' => ∃ x : Int, e = .returned (.int .i64 x) ∧ 0 ≤ x ∧ x ≤ 255 ∧ Src w' b a cap l (M + 1) ∧ OnlyAt b w w' := by
  have H := hide h
  obtain ⟨p, s, h1, h2, h3, h4, c0, c1, c2, hf, hb, hc, hrg, hl⟩ := h
  have f0 := hf 0
  have f1 := hf 1
  have f2 := hf 2
  have d0 : (w.setCell ⟨b, 1, none⟩ (.int .i64 (p + 1))).cell? ⟨b, 0, none⟩ = some (.slice a l.length cap) := by rw [World.cell?_setCell_other _ _ _ _ (by simp)]; exact c0
  have d1 : (w.setCell ⟨b, 1, none⟩ (.int .i64 (p + 1))).cell? ⟨b, 1, none⟩ = some (.int .i64 (p + 1)) := World.cell?_setCell_same w _ _ c1
  have d2 : (w.setCell ⟨b, 1, none⟩ (.int .i64 (p + 1))).cell? ⟨b, 2, none⟩ = some (.int .i64 s) := by rw [World.cell?_setCell_other _ _ _ _ (by simp)]; exact c2
  by_cases hlt : p + 1 ≤ (l.length : Int)
  · obtain ⟨q, rfl⟩ : ∃ q : Nat, p = (q : Int) := ⟨p.toNat, by omega⟩
    obtain ⟨c, off, rfl, hcl, hsrc⟩ : ∃ c off, a = some ⟨c, off, none⟩ ∧ c < b ∧ ∀ i, i < l.length → w.cell? ⟨c, off + i, none⟩ = some (.int .u8 (l.getD i 0)) := by
      rcases hc with h0 | h0
      · omega
      · exact h0
    have hs1 := hsrc q (by omega)
    have hr1 := hrg q
    clear hsrc hrg hc
    generalize l.getD q 0 = x at *
    have hs2 : (w.setCell ⟨b, 1, none⟩ (.int .i64 ((q : Int) + 1))).cell? ⟨c, off + q, none⟩ = some (.int .u8 x) := by
      rw [World.cell?_setCell_other _ _ _ _ (fun e => by have := congrArg Addr.block e; simp at this; omega)]; exact hs1
    go_enter Tryd.func108, Tryd.ntmps108
    generalize hw1 : w.setCell ⟨b, 1, none⟩ (.int .i64 ((q : Int) + 1)) = w1 at *
    have f2' : w1.frozen? ⟨b, 2, none⟩ = false := by rw [← hw1]; simpa using f2
    have m1 : IntKind.i64.wrap (s * 31) = s * 31 := wrapS _ (by omega) (by omega)
    have m2 : IntKind.i64.wrap (s * 31 + x) = s * 31 + x := wrapS _ (by omega) (by omega)
    have m3 : IntKind.i64.wrap (s * 31 + x + 7) = s * 31 + x + 7 := wrapS _ (by omega) (by omega)
    have m4 : IntKind.i64.wrap ((q : Int) + 1 - 1) = (q : Int) := by rw [show (q : Int) + 1 - 1 = (q : Int) by omega]; exact wrapS _ (by omega) (by omega)
    have m8 : IntKind.i64.wrap (q : Int) = (q : Int) := wrapS _ (by omega) (by omega)
    have m5 : (s * 31 + x + 7).tmod 2147483648 = (s * 31 + x + 7) % 2147483648 := Int.tmod_eq_emod_of_nonneg (by omega)
    have m6 : IntKind.i64.wrap ((s * 31 + x + 7) % 2147483648) = (s * 31 + x + 7) % 2147483648 := wrapS _ (by omega) (by omega)
    have m7 : IntKind.i64.wrap x = x := wrapS _ (by omega) (by omega)
    have q0 : (0 : Int) ≤ (q : Int) := by omega
    have q1 : (q : Int) < (l.length : Int) := by omega
    go_wp2_with fail
    go_quiet (fail)
    have e0 : (w1.drewN nq).cell? ⟨b, 0, none⟩ = _ := d0
    have e1 : (w1.drewN nq).cell? ⟨b, 1, none⟩ = _ := d1
    have e2 : (w1.drewN nq).cell? ⟨b, 2, none⟩ = _ := d2
    have e3 : (w1.drewN nq).cell? ⟨c, off + q, none⟩ = _ := hs2
    have e4 : (w1.drewN nq).frozen? ⟨b, 2, none⟩ = false := f2'
    clear d0 d1 d2 hs2 f2'
    generalize hw2 : w1.drewN nq = w2 at *
    go_wp2_with fail
    refine wp_region_still_tail 21 (by kernel_rfl) (by kernel_rfl) ?_
    simp only [List.take_succ_cons, List.take_zero, List.drop_succ_cons, List.drop_zero]
    repeat (first | still_step)
    refine wpStill_nil ?_
    have S3 := hide (((unhide H).step1 (p' := (q : Int) + 1) (by omega) (by omega)))
    rw [hw1] at S3
    have O3 : Hid (OnlyAt b w ({ heap := w2.heap, tape := w2.tape, drawn := w2.drawn + 1, os := w2.os, output := w2.output } : World)) := hide (by rw [← hw2, ← hw1]; exact ((OnlyAt.set b w 1 _).trans (OnlyAt.drewN b _ nq)).trans (OnlyAt.drewN b _ 1))
    have T3 : Hid (Src ({ heap := w2.heap, tape := w2.tape, drawn := w2.drawn + 1, os := w2.os, output := w2.output } : World) b (some ⟨c, off, none⟩) cap l (M + 1)) := hide (by rw [← hw2]; exact ((unhide S3).drewN nq).drewN 1)
    have g0 : ({ heap := w2.heap, tape := w2.tape, drawn := w2.drawn + 1, os := w2.os, output := w2.output } : World).cell? ⟨b, 0, none⟩ = _ := e0
    have g1 : ({ heap := w2.heap, tape := w2.tape, drawn := w2.drawn + 1, os := w2.os, output := w2.output } : World).cell? ⟨b, 1, none⟩ = _ := e1
    have g2 : ({ heap := w2.heap, tape := w2.tape, drawn := w2.drawn + 1, os := w2.os, output := w2.output } : World).cell? ⟨b, 2, none⟩ = _ := e2
    have g3 : ({ heap := w2.heap, tape := w2.tape, drawn := w2.drawn + 1, os := w2.os, output := w2.output } : World).cell? ⟨c, off + q, none⟩ = _ := e3
    have g4 : ({ heap := w2.heap, tape := w2.tape, drawn := w2.drawn + 1, os := w2.os, output := w2.output } : World).frozen? ⟨b, 2, none⟩ = false := e4
    clear e0 e1 e2 e3 e4 S3
    generalize ({ heap := w2.heap, tape := w2.tape, drawn := w2.drawn + 1, os := w2.os, output := w2.output } : World) = w3 at *
    have hs0 : 0 ≤ (s * 31 + x + 7) % 2147483648 := by omega
    have hs9 : (s * 31 + x + 7) % 2147483648 < 2147483648 := by omega
    clear m1 m2 m3 m5 m6
    generalize (s * 31 + x + 7) % 2147483648 = s' at *
    have k0 : (w3.setCell ⟨b, 2, none⟩ (.int .i64 s')).cell? ⟨b, 0, none⟩ = some (.slice (some ⟨c, off, none⟩) l.length cap) := by rw [World.cell?_setCell_other _ _ _ _ (by simp)]; exact g0
    have k1 : (w3.setCell ⟨b, 2, none⟩ (.int .i64 s')).cell? ⟨b, 1, none⟩ = some (.int .i64 ((q : Int) + 1)) := by rw [World.cell?_setCell_other _ _ _ _ (by simp)]; exact g1
    have k3 : (w3.setCell ⟨b, 2, none⟩ (.int .i64 s')).cell? ⟨c, off + q, none⟩ = some (.int .u8 x) := by
      rw [World.cell?_setCell_other _ _ _ _ (fun e => by have := congrArg Addr.block e; simp at this; omega)]; exact g3
    go_wp2_with fail
    go_quiet (fail)
    go_wp2_with fail
    go_ret
    exact ⟨x, rfl, hr1.1, hr1.2, ((unhide T3).step2 hs0 hs9).drewN _, ((unhide O3).trans (OnlyAt.set b _ 2 _)).trans (OnlyAt.drewN b _ _)⟩
  · have H1 : Hid (Src (w.setCell ⟨b, 1, none⟩ (.int .i64 (p + 1))) b a cap l (M + 1)) := hide ((unhide H).step1 (by omega) (by omega))
    have O1 : Hid (OnlyAt b w (w.setCell ⟨b, 1, none⟩ (.int .i64 (p + 1)))) := hide (OnlyAt.set b w 1 _)
    have f2' : (w.setCell ⟨b, 1, none⟩ (.int .i64 (p + 1))).frozen? ⟨b, 2, none⟩ = false := by simpa using f2
    clear hc hrg H
    go_enter Tryd.func108, Tryd.ntmps108
    go_wp2_with fail
    go_quiet (fail)
    have H2 := hide ((unhide H1).drewN nq)
    have O2 := hide ((unhide O1).trans (OnlyAt.drewN b _ nq))
    by_cases h3k : 3000 < p + 1
    · go_wp2_with fail
      go_ret
      exact ⟨0, rfl, by omega, by omega, unhide H2, unhide O2⟩
    · have m1 : IntKind.i64.wrap (s * 1103515245) = s * 1103515245 := wrapS _ (by omega) (by omega)
      have m3 : IntKind.i64.wrap (s * 1103515245 + 12345) = s * 1103515245 + 12345 := wrapS _ (by omega) (by omega)
      have m5 : (s * 1103515245 + 12345).tmod 2147483648 = (s * 1103515245 + 12345) % 2147483648 := Int.tmod_eq_emod_of_nonneg (by omega)
      have m6 : IntKind.i64.wrap ((s * 1103515245 + 12345) % 2147483648) = (s * 1103515245 + 12345) % 2147483648 := wrapS _ (by omega) (by omega)
      go_wp2_with fail
      go_ret
      exact ⟨_, rfl, by omega, by omega, (unhide H2).step2 (by omega) (by omega), (unhide O2).trans (OnlyAt.set b _ 2 _)⟩

set_option maxRecDepth 100000 in
set_option maxHeartbeats 1000000 in
theorem srcNext_any (n : Int) (w : World) (b : Nat) (a : Option Addr) (cap : Nat) (l : List Int) (M : Int) (h : Src w b a cap l M) (hM : M ≤ 900000000) (hn : 1 ≤ n) (hn2 : n < 16777216) :
    Calls Tryd.prog 83 #[.pointer (some ⟨b, 0, none⟩), .int .i64 n] w fun e w' => ∃ x : Int, e = .returned (.int .i64 x) ∧ 0 ≤ x ∧ x < n ∧ Src w' b a cap l (M + 3) ∧ OnlyAt b w w' := by
  by_cases h1 : n ≤ 1
  · go_enter Tryd.func83, Tryd.ntmps83
    have H := hide h
    go_wp2_with fail
    go_ret
    exact ⟨0, rfl, by omega, by omega, (unhide H).mono (by omega), OnlyAt.refl _ _⟩
  · by_cases h2 : n ≤ 256
    · have H := hide h
      clear h
      go_enter Tryd.func83, Tryd.ntmps83
      go_wp2_with fail
      refine (srcByte_any w b a cap l M (unhide H) (by omega)).mono ?_
      rintro e w' ⟨x, rfl, hx0, hx1, hS, hO⟩
      have H2 := hide (And.intro hS hO)
      have m5 : x.tmod n = x % n := Int.tmod_eq_emod_of_nonneg (by omega)
      have m6 : 0 ≤ x % n := Int.emod_nonneg _ (by omega)
      have m7 : x % n < n := Int.emod_lt_of_pos _ (by omega)
      have m8 : IntKind.i64.wrap (x % n) = x % n := wrapS _ (by omega) (by omega)
      have m9 : (n == 0) = false := by simp; omega
      have m10 : n ≠ 0 := by omega
      clear hS hO
      go_wp2_with fail
      go_ret
      exact ⟨_, rfl, m6, m7, (unhide H2).1.mono (by omega), (unhide H2).2⟩
    · have H := hide h
      clear h
      go_enter Tryd.func83, Tryd.ntmps83
      go_wp2_with fail
      refine (srcByte_any w b a cap l M (unhide H) (by omega)).mono ?_
      rintro e w' ⟨x, rfl, hx0, hx1, hS, hO⟩
      have H2 := hide (And.intro hS hO)
      clear hS hO
      go_wp2_with fail
      refine (srcByte_any w' b a cap l (M + 1) (unhide H2).1 (by omega)).mono ?_
      rintro e w'' ⟨y, rfl, hy0, hy1, hS, hO⟩
      have H3 := hide (And.intro hS hO)
      clear hS hO
      go_wp2_with fail
      refine (srcByte_any w'' b a cap l (M + 1 + 1) (unhide H3).1 (by omega)).mono ?_
      rintro e wq ⟨z, rfl, hz0, hz1, hS, hO⟩
      have H4 := hide (And.intro hS hO)
      clear hS hO
      have m5 : (x * 65536 + y * 256 + z).tmod n = (x * 65536 + y * 256 + z) % n := Int.tmod_eq_emod_of_nonneg (by omega)
      have m6 : 0 ≤ (x * 65536 + y * 256 + z) % n := Int.emod_nonneg _ (by omega)
      have m7 : (x * 65536 + y * 256 + z) % n < n := Int.emod_lt_of_pos _ (by omega)
      have m8 : IntKind.i64.wrap ((x * 65536 + y * 256 + z) % n) = (x * 65536 + y * 256 + z) % n := wrapS _ (by omega) (by omega)
      have m9 : (n == 0) = false := by simp; omega
      have m10 : n ≠ 0 := by omega
      go_wp2_with fail
      go_ret
      exact ⟨_, rfl, m6, m7, (unhide H4).1.mono (by omega), ((unhide H2).2.trans (unhide H3).2).trans (unhide H4).2⟩
end Go.Proofs.YtkcpdjeemdlgcaaDoor
