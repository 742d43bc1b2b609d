/- slices.Concat of two slices at texts. -/
import Derived.Test.YtnaoccndghnmpaaDoorAppR
import Derived.Test.YtnaoccndghnmpaaDoorStrL
import Derived.Lib.AppendZerosOnto
namespace Go.Proofs.YtnaoccndghnmpaaDoor
open Go.ChangeShapes Go.WideShapes Go.ChangeAt Go.RowKit
set_option linter.unusedVariables false
set_option linter.unusedSimpArgs false

theorem zerosS_size (z : Array Value) (n : Nat) (hz : z.size = 1) : (Builtin.zeroCells z n).size = n * 1 := by
  simp [Builtin.zeroCells, hz]
set_option maxRecDepth 100000 in
set_option maxHeartbeats 2000000 in
theorem growS_any (n : Nat) (w : World) (h0 : 0 < n) (h1 : n ≤ 100000) :
    Calls Tryd.prog 80 #[.slice none 0 0, .int .i64 n] w fun e w' => ∃ c, e = .returned (.slice (some ⟨w.heap.size, 0, none⟩) 0 c) ∧ w'.ownsRow w.heap.size 9 1 (.slice (some ⟨w.heap.size, 0, none⟩) 0 c) 0 [] ∧ Below w.heap.size w w' := by
  obtain ⟨i0, hi, hz0, hz1, hz2⟩ := info_parts9
  have hr : ∀ ty, (Builtin.append_ #[23, 3] ty #[.slice none 0 0, .int .i64 n]).run Tryd.prog w = .ok (.slice (some ⟨w.heap.size, 0, none⟩) n (grownCap w n 0 9)) (w.drew.alloc (.cells (Builtin.zeroCells (Value.string ⟨#[]⟩).cells n ++ Builtin.zeroCells (Value.string ⟨#[]⟩).cells (grownCap w n 0 9 - n)) 9)) := fun ty =>
    Lib.run_append_nil_zeros w 23 3 ty 9 i0 _ .i64 .i64 Tryd.underlying23 Tryd.underlying3 hi hz0 n h0 (by omega) (by omega) (by rw [hz2]; omega)
  have hG := grownCap_ge w n 0 9
  have hM := grownCap_le_maxLen w n 0 9 (by unfold maxLen; omega)
  have KB := hide (((Below.refl w.heap.size w).drew).alloc (Nat.le_refl _) (.cells (Builtin.zeroCells (Value.string ⟨#[]⟩).cells n ++ Builtin.zeroCells (Value.string ⟨#[]⟩).cells (grownCap w n 0 9 - n)) 9))
  have KO : Hid ((w.drew.alloc (.cells (Builtin.zeroCells (Value.string ⟨#[]⟩).cells n ++ Builtin.zeroCells (Value.string ⟨#[]⟩).cells (grownCap w n 0 9 - n)) 9)).ownsRow w.heap.size 9 1 (.slice (some ⟨w.heap.size, 0, none⟩) 0 (grownCap w n 0 9)) 0 []) := hide
    ⟨rfl, .inr ⟨w.heap.size, grownCap w n 0 9, _, rfl, Nat.le_refl _, heap_alloc_new w.drew _, Nat.zero_le _, hM, by
      rw [Array.size_append, zerosS_size _ _ rfl, zerosS_size _ _ rfl]; omega, by simp⟩⟩
  generalize w.drew.alloc (.cells (Builtin.zeroCells (Value.string ⟨#[]⟩).cells n ++ Builtin.zeroCells (Value.string ⟨#[]⟩).cells (grownCap w n 0 9 - n)) 9) = w1 at *
  generalize grownCap w n 0 9 = G at *
  unfold maxLen at hM
  have k1 : ¬ (n : Int) < 0 := by omega
  have k2 : (0 : Int) < (n : Int) := by omega
  have k3 : (0 : Int) ≤ (G : Int) := by omega
  go_enter Tryd.func80, Tryd.ntmps80
  go_wp2_with (at_builtin; refine Lib.wpList_append_run _ rfl _ _ _ _ rfl _ _ rfl rfl _ _ (hr _) ?_)
  go_ret
  exact ⟨G, rfl, unhide KO, unhide KB⟩
set_option maxRecDepth 100000 in
set_option maxHeartbeats 4000000 in
theorem concatS_any (a1 a2 : Option Addr) (m1 m2 c1 c2 X : Nat) (cs1 cs2 : List Value) (w : World) (k0 : w.cell? ⟨X, 0, none⟩ = some (.slice a1 m1 c1)) (k1 : w.cell? ⟨X, 1, none⟩ = some (.slice a2 m2 c2)) (hX : X < w.heap.size)
    (hl1 : cs1.length = m1 * 1) (hl2 : cs2.length = m2 * 1) (ho1 : ∀ u ∈ cs1, u.oneCell' = true) (ho2 : ∀ u ∈ cs2, u.oneCell' = true)
    (hR1 : ∀ wx, Below w.heap.size w wx → Rw wx (.slice a1 m1 c1) m1 cs1) (hR2 : ∀ wx, Below w.heap.size w wx → Rw wx (.slice a2 m2 c2) m2 cs2) (hm1 : m1 ≤ 4096) (hm2 : m2 ≤ 4096) (hp : 0 < m1 + m2) :
    Calls Tryd.prog 49 #[.slice (some ⟨X, 0, none⟩) 2 2] w fun e w' => ∃ a c, e = .returned (.slice a (m1 + m2) c) ∧ w'.ownsRow w.heap.size 9 1 (.slice a (m1 + m2) c) (m1 + m2) (cs1 ++ cs2) ∧ Below w.heap.size w w' := by
  obtain ⟨i0, hi, hz0, hz1, hz2⟩ := info_parts9
  have HR1 := hide hR1
  have HR2 := hide hR2
  have HL := hide (And.intro hl1 (And.intro hl2 (And.intro ho1 ho2)))
  have HK := hide (And.intro k0 k1)
  have HG := hide (growS_any (m1 + m2) w hp (by omega))
  clear hR1 hR2 hl1 hl2 ho1 ho2 k0 k1
  go_enter Tryd.func49, Tryd.ntmps49
  go_wp2_with fail
  go_loop [3, 11] (fun sv i => ∃ k : Nat, k ≤ 2 ∧ i = .int .i64 k ∧ sv = .int .i64 (((if 1 ≤ k then m1 else 0) + (if 2 ≤ k then m2 else 0) : Nat) : Int)) (fun _ i => 2 - (intOf i).toNat)
  case atStart => exact ⟨0, by omega, rfl, rfl⟩
  case round =>
    obtain ⟨k, hk, rfl, rfl⟩ := hrel
    rcases (show k = 0 ∨ k = 1 ∨ k = 2 by omega) with rfl | rfl | rfl
    · have c0 := (unhide HK).1
      go_wp2_with fail
      refine ⟨⟨1, by omega, by go_num, by simp⟩, ?_⟩
      simp [intOf]
    · have c0 := (unhide HK).2
      go_wp2_with fail
      refine ⟨⟨2, by omega, by go_num, by simp⟩, ?_⟩
      simp [intOf]
    · have e0 : ((if 1 ≤ 2 then m1 else 0) + (if 2 ≤ 2 then m2 else 0) : Nat) = m1 + m2 := by simp
      rw [e0]
      go_wp2_with fail
      refine (unhide HG).mono ?_
      rintro e w1 ⟨c, rfl, hO1, hb1⟩
      have O1 := hide hO1
      have B1 := hide hb1
      clear hO1 hb1
      go_wp2_with fail
      go_loopw [6, 27] (fun nv i wr => ∃ (k : Nat) (a : Option Addr) (cc : Nat), k ≤ 2 ∧ i = .int .i64 k ∧ nv = .slice a (if k = 0 then 0 else if k = 1 then m1 else m1 + m2) cc ∧ wr.ownsRow w.heap.size 9 1 (.slice a (if k = 0 then 0 else if k = 1 then m1 else m1 + m2) cc) (if k = 0 then 0 else if k = 1 then m1 else m1 + m2) (if k = 0 then [] else if k = 1 then cs1 else cs1 ++ cs2) ∧ Below w.heap.size w wr) (fun _ i _ => 2 - (intOf i).toNat)
      case atStart => exact ⟨0, _, c, by omega, rfl, rfl, unhide O1, unhide B1⟩
      case round =>
        obtain ⟨k, a, cc, hk, rfl, rfl, hO, hb⟩ := hrel
        rcases (show k = 0 ∨ k = 1 ∨ k = 2 by omega) with rfl | rfl | rfl
        · simp only [if_true] at hO ⊢
          have c0 := (hb.cell (p := ⟨X, 0, none⟩) hX).trans (unhide HK).1
          have HO := hide hO
          have HB := hide hb
          have hbs := hb.size
          clear hO hb
          go_wp2_with (at_builtin; refine wpList_append_row _ rfl _ _ _ rfl w.heap.size 9 i0 _ 1 16 Tryd.underlying23 hi hz0 hz1 hz2 rfl (by omega) _ 0 [] rfl (unhide HO) _ m1 cs1 rfl (unhide HR1 _ (unhide HB)) (unhide HL).1 (unhide HL).2.2.1 (by unfold maxLen; omega) (by omega) (by omega) ?_; intro a3 c3 w3 hown3 hgrow3 hat3; have R := hide (And.intro hown3 ((unhide HB).grown hgrow3 (by omega) (fun r hr => ((unhide HO).lt r hr).1))); clear hown3 hgrow3 hat3)
          refine ⟨⟨1, a3, c3, by omega, by go_num, by simp, by simpa using (unhide R).1, (unhide R).2⟩, ?_⟩
          simp [intOf]
        · have e1 : (if (1 : Nat) = 0 then 0 else if (1 : Nat) = 1 then m1 else m1 + m2) = m1 := by simp
          have e2 : (if (1 : Nat) = 0 then [] else if (1 : Nat) = 1 then cs1 else cs1 ++ cs2) = cs1 := by simp
          rw [e1, e2] at hO
          rw [e1]
          have c0 := (hb.cell (p := ⟨X, 1, none⟩) hX).trans (unhide HK).2
          have HO := hide hO
          have HB := hide hb
          have hbs := hb.size
          clear hO hb e1 e2
          go_wp2_with (at_builtin; refine wpList_append_row _ rfl _ _ _ rfl w.heap.size 9 i0 _ 1 16 Tryd.underlying23 hi hz0 hz1 hz2 rfl (by omega) _ m1 cs1 rfl (unhide HO) _ m2 cs2 rfl (unhide HR2 _ (unhide HB)) (unhide HL).2.1 (unhide HL).2.2.2 (by unfold maxLen; omega) (by omega) (by omega) ?_; intro a3 c3 w3 hown3 hgrow3 hat3; have R := hide (And.intro hown3 ((unhide HB).grown hgrow3 (by omega) (fun r hr => ((unhide HO).lt r hr).1))); clear hown3 hgrow3 hat3)
          refine ⟨⟨2, a3, c3, by omega, by go_num, by simp, by simpa using (unhide R).1, (unhide R).2⟩, ?_⟩
          simp [intOf]
        · have e1 : (if (2 : Nat) = 0 then 0 else if (2 : Nat) = 1 then m1 else m1 + m2) = m1 + m2 := by simp
          have e2 : (if (2 : Nat) = 0 then [] else if (2 : Nat) = 1 then cs1 else cs1 ++ cs2) = cs1 ++ cs2 := by simp
          rw [e1, e2] at hO
          rw [e1]
          have R := hide (And.intro hO hb)
          clear hO hb e1 e2
          go_wp2_with fail
          go_ret
          exact ⟨a, cc, rfl, (unhide R).1, (unhide R).2⟩
end Go.Proofs.YtnaoccndghnmpaaDoor
