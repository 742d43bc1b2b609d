/- laws.at and laws.sameInts, walked. -/
import Derived.Test.YtnaoccndghnmpaaDoorBytes
namespace Go.Proofs.YtnaoccndghnmpaaDoor
open Go.ChangeShapes Go.WideShapes Go.ChangeAt Go.RowKit
set_option linter.unusedVariables false

theorem wrapA (n : Int) (h0 : 0 ≤ n) (h1 : n < 9223372036854775808) : IntKind.i64.wrap n = n := by
  simp only [IntKind.wrap, IntKind.bits, IntKind.signed]
  simp
  omega
set_option maxRecDepth 100000 in
set_option maxHeartbeats 1000000 in
/-- What is drawn lies below n. -/
theorem at_any (v : Value) (l : List Int) (i n : Int) (w : World) (h : Bytes w v l) (hi0 : 0 ≤ i) (hi : i ≤ 1000) (hn : 2 ≤ n) (hn2 : n ≤ 1048576000) :
    Calls Tryd.prog 9 #[v, .int .i64 i, .int .i64 n] w fun e w' => ∃ r : Int, e = .returned (.int .i64 r) ∧ 0 ≤ r ∧ r < n ∧ ∃ d, w' = w.drewN d := by
  obtain ⟨a, cap, rfl, hm, hc, hr⟩ := h
  unfold maxLen at hm
  have g1 : ¬ n ≤ 1 := by omega
  have g2 : (n == 0) = false := by simp; omega
  have g3 : n ≠ 0 := by omega
  by_cases h0 : l.length = 0
  · have m1 : IntKind.i64.wrap (i * 7) = i * 7 := wrapA _ (by omega) (by omega)
    have m5 : (i * 7).tmod n = i * 7 % n := Int.tmod_eq_emod_of_nonneg (by omega)
    have m6 : 0 ≤ i * 7 % n := Int.emod_nonneg _ (by omega)
    have m7 : i * 7 % n < n := Int.emod_lt_of_pos _ (by omega)
    have m8 : IntKind.i64.wrap (i * 7 % n) = i * 7 % n := wrapA _ (by omega) (by omega)
    have g4 : (l.length : Int) = 0 := by omega
    have g5 : ((l.length : Int) == 0) = true := by rw [g4]; rfl
    clear hc hr
    go_enter Tryd.func9, Tryd.ntmps9
    go_wp2_with fail
    go_ret
    exact ⟨_, rfl, m6, m7, 0, rfl⟩
  · obtain ⟨b, off, rfl, hbl, hsrc⟩ : ∃ b off, a = some ⟨b, off, none⟩ ∧ b < w.heap.size ∧ ∀ i, i < l.length → w.cell? ⟨b, off + i, none⟩ = some (.int .u8 (l.getD i 0)) := by
      rcases hc with h0 | h1
      · omega
      · exact h1
    have hL : (l.length : Int) ≠ 0 := by omega
    have hL2 : ((l.length : Int) == 0) = false := beq_eq_false_iff_ne.2 hL
    have m1 : IntKind.i64.wrap (i + 1) = i + 1 := wrapA _ (by omega) (by omega)
    have q5 : i.tmod (l.length : Int) = i % (l.length : Int) := Int.tmod_eq_emod_of_nonneg (by omega)
    have q6 : 0 ≤ i % (l.length : Int) := Int.emod_nonneg _ (by omega)
    have q7 : i % (l.length : Int) < (l.length : Int) := Int.emod_lt_of_pos _ (by omega)
    have p5 : (i + 1).tmod (l.length : Int) = (i + 1) % (l.length : Int) := Int.tmod_eq_emod_of_nonneg (by omega)
    have p6 : 0 ≤ (i + 1) % (l.length : Int) := Int.emod_nonneg _ (by omega)
    have p7 : (i + 1) % (l.length : Int) < (l.length : Int) := Int.emod_lt_of_pos _ (by omega)
    have t5 : i.tdiv (l.length : Int) = i / (l.length : Int) := Int.tdiv_eq_ediv_of_nonneg hi0
    have t6 : 0 ≤ i / (l.length : Int) := Int.ediv_nonneg hi0 (by omega)
    have t7 : i / (l.length : Int) ≤ i := Int.ediv_le_self _ hi0
    obtain ⟨x, hx⟩ : ∃ x, x = i % (l.length : Int) := ⟨_, rfl⟩
    obtain ⟨y, hy⟩ : ∃ y, y = (i + 1) % (l.length : Int) := ⟨_, rfl⟩
    obtain ⟨z, hz⟩ : ∃ z, z = i / (l.length : Int) := ⟨_, rfl⟩
    rw [← hx] at q5 q6 q7
    rw [← hy] at p5 p6 p7
    rw [← hz] at t5 t6 t7
    clear hx hy hz
    have c1 := hsrc x.toNat (by omega)
    have c2 := hsrc y.toNat (by omega)
    have d1 := hr x.toNat
    have d2 := hr y.toNat
    clear hsrc hr hc
    generalize l.getD x.toNat 0 = bx at *
    generalize l.getD y.toNat 0 = by' at *
    have q8 : IntKind.i64.wrap x = x := wrapA _ (by omega) (by omega)
    have p8 : IntKind.i64.wrap y = y := wrapA _ (by omega) (by omega)
    have t8 : IntKind.i64.wrap z = z := wrapA _ (by omega) (by omega)
    have w1 : IntKind.i64.wrap bx = bx := wrapA _ (by omega) (by omega)
    have w2 : IntKind.i64.wrap by' = by' := wrapA _ (by omega) (by omega)
    have w3 : IntKind.i64.wrap (bx * 31) = bx * 31 := wrapA _ (by omega) (by omega)
    have w4 : IntKind.i64.wrap (bx * 31 + by') = bx * 31 + by' := wrapA _ (by omega) (by omega)
    have w5 : IntKind.i64.wrap (bx * 31 + by' + z) = bx * 31 + by' + z := wrapA _ (by omega) (by omega)
    have m5 : (bx * 31 + by' + z).tmod n = (bx * 31 + by' + z) % n := Int.tmod_eq_emod_of_nonneg (by omega)
    have m6 : 0 ≤ (bx * 31 + by' + z) % n := Int.emod_nonneg _ (by omega)
    have m7 : (bx * 31 + by' + z) % n < n := Int.emod_lt_of_pos _ (by omega)
    have m8 : IntKind.i64.wrap ((bx * 31 + by' + z) % n) = (bx * 31 + by' + z) % n := wrapA _ (by omega) (by omega)
    go_enter Tryd.func9, Tryd.ntmps9
    go_wp2_with fail
    go_quiet (fail)
    go_wp2_with fail
    go_ret
    exact ⟨_, rfl, m6, m7, _, rfl⟩

end Go.Proofs.YtnaoccndghnmpaaDoor
