/- A disk's marks laid: laws.markFileS, laws.markDisk. -/
import Derived.Test.YtlicgahjdgipkakFilL
import Derived.Test.YtlicgahjdgipkakStr
namespace Go.Proofs.Ytlicgahjdgipkak
open Go.ChangeShapes Go.WideShapes Go.ChangeAt Go.RowKit
set_option linter.unusedVariables false
set_option linter.unusedSimpArgs false

theorem wrapMk (n : Int) (h0 : 0 ≤ n) (h1 : n < 9223372036854775808) : IntKind.i64.wrap n = n := by
  simp only [IntKind.wrap, IntKind.bits, IntKind.signed]
  simp
  omega
set_option maxRecDepth 100000 in
set_option maxHeartbeats 2000000 in
theorem markFileS_any (B g cap : Nat) (l : List Fl) (w : World) (h : w.ownsRow B 71 3 (.slice (some ⟨g, 0, none⟩) l.length cap) l.length (flsC l)) (hl : l.length ≤ 1048576) :
    Calls Try.prog 26 #[.slice (some ⟨g, 0, none⟩) l.length cap, .int .i64 1] w fun e w' => e = .returned (.int .i64 (1 + 3 * (l.length : Int))) ∧ Touch (fun k => k = g) w w' := by
  have H := hide h
  clear h
  go_enter Try.func26, Try.ntmps26
  go_wp2_with fail
  go_loopw [1, 5] (fun k i wr => ∃ (j : Nat) (m : List Fl), j ≤ l.length ∧ m.length = l.length ∧ k = .int .i64 (1 + 3 * (j : Int)) ∧ i = .int .i64 j ∧ wr.ownsRow B 71 3 (.slice (some ⟨g, 0, none⟩) l.length cap) l.length (flsC m) ∧ Touch (fun k => k = g) w wr) (fun _ i _ => l.length - (intOf i).toNat)
  case atStart => exact ⟨0, l, Nat.zero_le _, rfl, rfl, rfl, unhide H, Touch.refl _ _⟩
  case round =>
    obtain ⟨j, m, hj, hm, rfl, rfl, hL, hT⟩ := hrel
    by_cases hlt2 : j < l.length
    · have p0 : (0 : Int) ≤ (j : Int) := by omega
      have p1 : (j : Int) < (l.length : Int) := by omega
      have hfl := flsC_len m
      have HM := hide (And.intro hm hfl)
      have HL := hide (And.intro hL hT)
      have q1 : IntKind.i64.wrap (1 + 3 * (j : Int) + 1) = 1 + 3 * (j : Int) + 1 := wrapMk _ (by omega) (by omega)
      have q2 : IntKind.i64.wrap (1 + 3 * (j : Int) + 1 + 1) = 1 + 3 * (j : Int) + 1 + 1 := wrapMk _ (by omega) (by omega)
      have q3 : IntKind.i64.wrap (1 + 3 * (j : Int) + 1 + 1 + 1) = 1 + 3 * (j : Int) + 1 + 1 + 1 := wrapMk _ (by omega) (by omega)
      clear hL hT hfl hm
      go_wp2_with fail
      refine (markText_int _ (1 + 3 * j) (by omega) wr (by omega) (by omega)).mono ?_
      rintro e w2 ⟨rfl, hb2⟩
      have hO := own_kept (T := fun _ => False) (unhide HL).1 (Touch.ofBelow hb2) (fun _ _ h => h)
      have hT2 : Touch (fun k => k = g) w w2 := (unhide HL).2.trans (T' := fun _ => False) (Touch.ofBelow hb2) (fun _ _ h => h.elim)
      have hjm : j < m.length := by rw [(unhide HM).1]; exact hlt2
      have c0 := (hO.cellAt (j * 3) (by omega)).trans (flsC_get m j hjm).1
      have f0 := hO.frozenAt (j * 3)
      have HG := hide (flsC_get m j hjm)
      have R2 := hide (And.intro (hO.stored (j * 3) (.string (mtx (1 + 3 * j)))).1 (hT2.setCell ⟨g, j * 3, none⟩ (.string (mtx (1 + 3 * j))) (fun _ => rfl)))
      clear hb2 hO hT2 HL
      generalize mtx (1 + 3 * j) = x1 at *
      go_wp2_with fail
      clear c0 f0
      generalize w2.setCell ⟨g, j * 3, none⟩ (.string x1) = w3 at *
      refine (markText_int _ (1 + 3 * j + 1) (by omega) w3 (by omega) (by omega)).mono ?_
      rintro e w4 ⟨rfl, hb4⟩
      have hO4 := own_kept (T := fun _ => False) (unhide R2).1 (Touch.ofBelow hb4) (fun _ _ h => h)
      have hT4 : Touch (fun k => k = g) w w4 := (unhide R2).2.trans (T' := fun _ => False) (Touch.ofBelow hb4) (fun _ _ h => h.elim)
      have c1 := (hO4.cellAt (j * 3 + 1) (by omega)).trans ((List.getElem?_set_ne (by omega)).trans (unhide HG).2.1)
      have f1 := hO4.frozenAt (j * 3 + 1)
      have c2 := (hO4.cellAt (j * 3 + 2) (by omega)).trans ((List.getElem?_set_ne (by omega)).trans (unhide HG).2.2)
      have f2 := hO4.frozenAt (j * 3 + 2)
      have hO5 := (hO4.stored (j * 3 + 1) (.string (mtx (1 + 3 * j + 1)))).1
      have hO6 := (hO5.stored (j * 3 + 2) (.int .i64 (1 + 3 * (j : Int) + 1 + 1))).1
      have hT6 := (hT4.setCell ⟨g, j * 3 + 1, none⟩ (.string (mtx (1 + 3 * j + 1))) (fun _ => rfl)).setCell ⟨g, j * 3 + 2, none⟩ (.int .i64 (1 + 3 * (j : Int) + 1 + 1)) (fun _ => rfl)
      have hset := flsC_set m j ⟨x1, mtx (1 + 3 * j + 1), 1 + 3 * (j : Int) + 1 + 1⟩ hjm
      dsimp only at hset
      rw [hset] at hO6
      have R6 := hide (And.intro hO6 hT6)
      have HML := hide (show (m.set j ⟨x1, mtx (1 + 3 * j + 1), 1 + 3 * (j : Int) + 1 + 1⟩).length = l.length by rw [List.length_set]; exact (unhide HM).1)
      clear hb4 hO4 hT4 hO5 hO6 hT6 hset R2 HG HM
      generalize mtx (1 + 3 * j + 1) = x2 at *
      go_wp2_with fail
      refine ⟨⟨j + 1, _, by omega, unhide HML, ?_, by go_num, (unhide R6).1, (unhide R6).2⟩, ?_⟩
      · have e : (1 : Int) + 3 * (j : Int) + 1 + 1 + 1 = 1 + 3 * ((j + 1 : Nat) : Int) := by omega
        rw [← e]
      · simp [intOf]; omega
    · obtain rfl : j = l.length := by omega
      have R := hide hT
      clear hL hT
      go_wp2_with fail
      go_ret
      exact ⟨rfl, unhide R⟩
set_option maxRecDepth 100000 in
set_option maxHeartbeats 1000000 in
theorem markDisk_any (room : Int) (B g cap : Nat) (l : List Fl) (w : World) (h : w.ownsRow B 71 3 (.slice (some ⟨g, 0, none⟩) l.length cap) l.length (flsC l)) (hl : l.length ≤ 1048576) :
    Calls Try.prog 11 #[.agg #[.int .i64 room, .slice (some ⟨g, 0, none⟩) l.length cap], .int .i64 1] w fun e w' => e = .returned (.int .i64 (1 + 3 * (l.length : Int))) ∧ Touch (fun k => k = g) w w' := by
  have H := hide (own_kept (T := fun _ => False) h (((Touch.refl _ w).alloc (.cells #[.int .i64 room, .slice (some ⟨g, 0, none⟩) l.length cap] 33))) (fun _ _ h => h))
  have T := hide ((Touch.refl (fun k => k = g) w).alloc (.cells #[.int .i64 room, .slice (some ⟨g, 0, none⟩) l.length cap] 33))
  clear h
  go_enter Try.func11, Try.ntmps11
  go_wp2_with fail
  generalize w.alloc (.cells #[.int .i64 room, .slice (some ⟨g, 0, none⟩) l.length cap] 33) = w1 at *
  refine (markFileS_any B g cap l w1 (unhide H) hl).mono ?_
  rintro e w2 ⟨rfl, hT2⟩
  have T2 := hide ((unhide T).trans hT2 (fun _ _ h => h))
  clear hT2 T H
  go_wp2_with fail
  go_ret
  exact ⟨rfl, unhide T2⟩
end Go.Proofs.Ytlicgahjdgipkak
