/- Commands held against each other; slices.Index of commands. -/
import Derived.Test.YtnhhnjmjodmacaaGreatDoorQan02
import Derived.Laws.Cover1
import Derived.Laws.StructEq
import Derived.Deep.Cut
namespace Go.Proofs.YtnhhnjmjodmacaaGreatDoor
open Go.ChangeShapes Go.WideShapes Go.ChangeAt Go.RowKit
set_option linter.unusedVariables false
def cmEq (a b : Cm) : Bool := (a.kd == b.kd) && ((a.ss == b.ss) && ((a.sq == b.sq) && ((a.ky.toList == b.ky.toList) && (a.vl.toList == b.vl.toList))))
theorem bytes_inj {a b : ByteArray} (h : a.toList = b.toList) : a = b := by
  rw [ByteArray.toList_eq, ByteArray.toList_eq] at h
  exact ByteArray.ext (Array.toList_inj.1 h)
theorem cmEq_iff {a b : Cm} : cmEq a b = true ↔ a = b := by
  unfold cmEq
  simp only [Bool.and_eq_true, beq_iff_eq]
  constructor
  · rintro ⟨h1, h2, h3, h4, h5⟩
    cases a; cases b
    simp only at h1 h2 h3 h4 h5
    rw [h1, h2, h3, bytes_inj h4, bytes_inj h5]
  · rintro rfl; exact ⟨rfl, rfl, rfl, rfl, rfl⟩
theorem eql_cmd (w : World) (f0 f1 f2 g0 g1 g2 : Int) (f3 f4 g3 g4 : ByteArray) : (binOp .eql 44 (.agg #[.int .i64 f0, .int .i64 f1, .int .i64 f2, .string f3, .string f4]) (.agg #[.int .i64 g0, .int .i64 g1, .int .i64 g2, .string g3, .string g4])).run Tryz.prog w = .ok (.bool (cmEq ⟨f0, f1, f2, f3, f4⟩ ⟨g0, g1, g2, g3, g4⟩)) w := by
  rw [run_eql_struct]
  rw [run_equalIn_struct w 9999 44 _ _ (by kernel_rfl) (by kernel_rfl)]
  simp only [Program.fieldsOf, Tryz.underlying44]
  simp [Op.eqFields, go_sem, cmEq]
  by_cases h0 : f0 = g0 <;> by_cases h1 : f1 = g1 <;> by_cases h2 : f2 = g2 <;> by_cases h3 : f3.toList = g3.toList <;> by_cases h4 : f4.toList = g4.toList <;> simp [h0, h1, h2, h3, h4]
/-- The first place of a command. -/
def At (l : List Cm) (c : Cm) (k : Nat) : Prop := k < l.length ∧ l.getD k default = c ∧ ∀ i, i < k → l.getD i default ≠ c
theorem At.uniq {l : List Cm} {c : Cm} {j k : Nat} (h : At l c j) (h' : At l c k) : j = k := by
  rcases Nat.lt_trichotomy j k with e | e | e
  · exact absurd h.2.1 (h'.2.2 j e)
  · exact e
  · exact absurd h'.2.1 (h.2.2 k e)
def No (l : List Cm) (c : Cm) : Prop := ∀ i, i < l.length → l.getD i default ≠ c
set_option maxRecDepth 100000 in
set_option maxHeartbeats 1000000 in
theorem indexCm_any (v : Value) (l : List Cm) (c : Cm) (w : World) (h : Css w v l) (hs : l.length ≤ 1048576) :
    Calls Tryz.prog 53 #[v, .agg #[.int .i64 c.kd, .int .i64 c.ss, .int .i64 c.sq, .string c.ky, .string c.vl]] w fun e w' => ((∃ k : Nat, At l c k ∧ e = .returned (.int .i64 (k : Int))) ∨ (No l c ∧ e = .returned (.int .i64 (-1)))) ∧ Below w.heap.size w w' := by
  obtain ⟨a, cap, rfl, hn, hm, hc⟩ := h
  have HC := hide hc
  have HKey : Hid (∀ x y, cmEq x y = true ↔ x = y) := hide (fun x y => cmEq_iff)
  clear hc hm hn
  have B0 := hide ((Below.refl w.heap.size w).alloc (Nat.le_refl _) (.cells #[.int .i64 c.kd, .int .i64 c.ss, .int .i64 c.sq, .string c.ky, .string c.vl] 44))
  have X0 := hide (Blk.new w #[.int .i64 c.kd, .int .i64 c.ss, .int .i64 c.sq, .string c.ky, .string c.vl] 44 w.heap.size rfl)
  obtain ⟨c0, c1, c2, c3, c4⟩ := c
  dsimp only at B0 X0 ⊢
  go_enter Tryz.func53, Tryz.ntmps53
  go_upto_region 1 with fail
  generalize w.alloc (.cells #[.int .i64 c0, .int .i64 c1, .int .i64 c2, .string c3, .string c4] 44) = w0 at *
  go_wp2_with fail
  go_loopw [8] (fun i wr => ∃ k : Nat, k ≤ l.length ∧ i = .int .i64 k ∧ Hid (∀ j, j < k → l.getD j default ≠ ⟨c0, c1, c2, c3, c4⟩) ∧ Hid (Below w0.heap.size w0 wr)) (fun i _ => l.length - (intOf i).toNat)
  case atStart => exact ⟨0, Nat.zero_le _, rfl, hide (fun j hj => absurd hj (Nat.not_lt_zero _)), hide (Below.refl _ _)⟩
  case round =>
    obtain ⟨k, hk, rfl, HGO, HB⟩ := hrel
    have BW := hide ((unhide B0).trans ((unhide HB).mono (unhide B0).size))
    by_cases hlt : k < l.length
    · obtain ⟨b, off, rfl, hbl, hsrc⟩ : ∃ b off, a = some ⟨b, off, none⟩ ∧ b < w.heap.size ∧ ∀ i, i < l.length → w.cell? ⟨b, off + i * 5, none⟩ = some (.int .i64 (l.getD i default).kd) ∧ w.cell? ⟨b, off + i * 5 + 1, none⟩ = some (.int .i64 (l.getD i default).ss) ∧ w.cell? ⟨b, off + i * 5 + 2, none⟩ = some (.int .i64 (l.getD i default).sq) ∧ w.cell? ⟨b, off + i * 5 + 3, none⟩ = some (.string (l.getD i default).ky) ∧ w.cell? ⟨b, off + i * 5 + 4, none⟩ = some (.string (l.getD i default).vl) := by
        rcases unhide HC with h0 | h1
        · omega
        · exact h1
      obtain ⟨s0, s1, s2, s3, s4⟩ := hsrc k hlt
      have d0 := ((unhide BW).cell (p := ⟨b, off + k * 5, none⟩) hbl).trans s0
      have d1 := ((unhide BW).cell (p := ⟨b, off + k * 5 + 1, none⟩) hbl).trans s1
      have d2 := ((unhide BW).cell (p := ⟨b, off + k * 5 + 2, none⟩) hbl).trans s2
      have d3 := ((unhide BW).cell (p := ⟨b, off + k * 5 + 3, none⟩) hbl).trans s3
      have d4 := ((unhide BW).cell (p := ⟨b, off + k * 5 + 4, none⟩) hbl).trans s4
      have X1 := (unhide X0).below (unhide HB)
      have x0 := X1.cell 0 rfl
      have x1 := X1.cell 1 rfl
      have x2 := X1.cell 2 rfl
      have x3 := X1.cell 3 rfl
      have x4 := X1.cell 4 rfl
      have hk0 : (0 : Int) ≤ (k : Int) := by omega
      have hk1 : (k : Int) < (l.length : Int) := by omega
      have m2 : IntKind.i64.wrap ((k : Int) + 1) = (k : Int) + 1 := wrapCm _ (by omega) (by omega)
      obtain ⟨f, hf⟩ : ∃ f, f = l.getD k default := ⟨_, rfl⟩
      rw [← hf] at d0 d1 d2 d3 d4
      have HF := hide hf
      clear hsrc s0 s1 s2 s3 s4 hf X1
      obtain ⟨f0, f1, f2, f3, f4⟩ := f
      dsimp only at d0 d1 d2 d3 d4
      have q1 := fun wx => eql_cmd wx c0 c1 c2 f0 f1 f2 c3 c4 f3 f4
      have q3 : Tryz.prog.eqGuardType Tryz.prog.depth 44 = false := by kernel_rfl
      go_wp2_with fail
      cases hq : cmEq ⟨c0, c1, c2, c3, c4⟩ ⟨f0, f1, f2, f3, f4⟩
      · have HN := hide (show ∀ j, j < k + 1 → l.getD j default ≠ ⟨c0, c1, c2, c3, c4⟩ from fun j hj e => by
          by_cases ej : j = k
          · rw [ej, ← unhide HF] at e
            have := (unhide HKey _ _).2 e.symm
            rw [hq] at this
            cases this
          · exact unhide HGO j (by omega) e)
        go_quiet (fail)
        go_wp2_with fail
        refine ⟨⟨k + 1, by omega, by go_num, HN, hide (below_drewN (unhide HB) _)⟩, ?_⟩
        simp [intOf]; omega
      · have HE := hide ((unhide HKey _ _).1 hq)
        go_quiet (fail)
        go_wp2_with fail
        go_ret
        exact ⟨.inl ⟨k, ⟨hlt, by rw [← unhide HF, unhide HE], unhide HGO⟩, rfl⟩, below_drewN (unhide BW) _⟩
    · obtain rfl : k = l.length := by omega
      go_wp2_with fail
      go_ret
      exact ⟨.inr ⟨unhide HGO, rfl⟩, unhide BW⟩
end Go.Proofs.YtnhhnjmjodmacaaGreatDoor
