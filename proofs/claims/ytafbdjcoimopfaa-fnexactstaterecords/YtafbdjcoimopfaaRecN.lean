/- How many first entries of two logs are the same: impl.sameEntries, walked. -/
import Derived.Test.YtafbdjcoimopfaaStE
namespace Go.Proofs.Ytafbdjcoimopfaa
open Go.ChangeShapes Go.WideShapes Go.ChangeAt Go.RowKit
set_option linter.unusedVariables false

def sameN : List En → List En → Nat
  | a :: x, b :: y => if enEq a b = true then sameN x y + 1 else 0
  | _, _ => 0
theorem sameN_le1 (x : List En) : ∀ y, sameN x y ≤ x.length := by
  induction x with
  | nil => intro y; simp [sameN]
  | cons a x ih =>
    intro y
    cases y with
    | nil => simp [sameN]
    | cons b y => have := ih y; simp only [sameN, List.length_cons]; split <;> omega
theorem sameN_le2 (x : List En) : ∀ y, sameN x y ≤ y.length := by
  induction x with
  | nil => intro y; simp [sameN]
  | cons a x ih =>
    intro y
    cases y with
    | nil => simp [sameN]
    | cons b y => have := ih y; simp only [sameN, List.length_cons]; split <;> omega
theorem sameN_at (x : List En) : ∀ (y : List En) (k : Nat), enTo x y k → k ≤ x.length → k ≤ y.length → (k = x.length ∨ k = y.length ∨ enEq (x.getD k default) (y.getD k default) = false) → sameN x y = k := by
  induction x with
  | nil => intro y k _ h1 _ _; simp at h1; subst h1; simp [sameN]
  | cons a x ih =>
    intro y k h h1 h2 h3
    cases y with
    | nil => simp at h2; subst h2; simp [sameN]
    | cons b y =>
      cases k with
      | zero =>
        rcases h3 with h3 | h3 | h3
        · simp at h3
        · simp at h3
        · simp at h3; simp [sameN, h3]
      | succ k =>
        have h0 := h 0 (by omega)
        simp only [List.getD_cons_zero] at h0
        have := ih y k (fun i hi => by have := h (i + 1) (by omega); simpa using this) (by simp at h1; omega) (by simp at h2; omega) (by
          rcases h3 with h3 | h3 | h3
          · left; simp at h3; omega
          · right; left; simp at h3; omega
          · right; right; simpa using h3)
        simp [sameN, h0, this]

set_option maxRecDepth 100000 in
set_option maxHeartbeats 1000000 in
theorem sameEntries_any (u v : Value) (x y : List En) (w : World) (hx : Ens w u x) (hy : Ens w v y) (hlx : x.length ≤ 1048576) (hly : y.length ≤ 1048576) :
    Calls Try.prog 110 #[u, v] w fun e w' => e = .returned (.int .i64 (sameN x y)) ∧ Below w.heap.size w w' := by
  obtain ⟨a, cap, rfl, hn, hm, hc⟩ := hx
  obtain ⟨a2, cap2, rfl, hn2, hm2, hc2⟩ := hy
  have HC := hide hc
  have HC2 := hide hc2
  clear hc hc2 hn hm hn2 hm2
  by_cases hxy : y.length < x.length
  · have hxy2 : (y.length : Int) < (x.length : Int) := by omega
    go_enter Try.func110, Try.ntmps110
    go_wp2_with fail
    go_loopw [13] (fun i wr => ∃ k : Nat, k ≤ y.length ∧ i = .int .i64 k ∧ enTo x y k ∧ Below w.heap.size w wr) (fun i _ => y.length - (intOf i).toNat)
    case atStart => exact ⟨0, Nat.zero_le _, rfl, fun i hi => by omega, Below.refl _ _⟩
    case round =>
      obtain ⟨k, hk, rfl, hgo, hb⟩ := hrel
      by_cases hlt : k < y.length
      · obtain ⟨b, off, rfl, hbl, hsrc⟩ : ∃ b off, a = some ⟨b, off, none⟩ ∧ b < w.heap.size ∧ ∀ i, i < x.length → w.cell? ⟨b, off + i * 3, none⟩ = some (.int .i64 (x.getD i default).t) ∧ w.cell? ⟨b, off + i * 3 + 1, none⟩ = some (.int .i64 (x.getD i default).k) ∧ w.cell? ⟨b, off + i * 3 + 2, none⟩ = some (.string (x.getD i default).d) := by
          rcases unhide HC with h0 | h1
          · omega
          · exact h1
        obtain ⟨b2, off2, rfl, hbl2, hsrc2⟩ : ∃ b off, a2 = some ⟨b, off, none⟩ ∧ b < w.heap.size ∧ ∀ i, i < y.length → w.cell? ⟨b, off + i * 3, none⟩ = some (.int .i64 (y.getD i default).t) ∧ w.cell? ⟨b, off + i * 3 + 1, none⟩ = some (.int .i64 (y.getD i default).k) ∧ w.cell? ⟨b, off + i * 3 + 2, none⟩ = some (.string (y.getD i default).d) := by
          rcases unhide HC2 with h0 | h1
          · omega
          · exact h1
        obtain ⟨s0, s1, s2⟩ := hsrc k (by omega)
        obtain ⟨t0, t1, t2⟩ := hsrc2 k (by omega)
        have c0 := (hb.cell (p := ⟨b, off + k * 3, none⟩) hbl).trans s0
        have c1 := (hb.cell (p := ⟨b, off + k * 3 + 1, none⟩) hbl).trans s1
        have c2 := (hb.cell (p := ⟨b, off + k * 3 + 2, none⟩) hbl).trans s2
        have d0 := (hb.cell (p := ⟨b2, off2 + k * 3, none⟩) hbl2).trans t0
        have d1 := (hb.cell (p := ⟨b2, off2 + k * 3 + 1, none⟩) hbl2).trans t1
        have d2 := (hb.cell (p := ⟨b2, off2 + k * 3 + 2, none⟩) hbl2).trans t2
        have hk0 : (0 : Int) ≤ (k : Int) := by omega
        have hk1 : (k : Int) < (x.length : Int) := by omega
        have hk2 : (k : Int) < (y.length : Int) := by omega
        have HB := hide hb
        have HNX := hide (fun h => hgo.next h)
        have HBD := hide (fun h => sameN_at x y k hgo (by omega) (by omega) (.inr (.inr h)))
        clear hsrc hsrc2 s0 s1 s2 t0 t1 t2 hb hgo
        generalize x.getD k default = f at *
        generalize y.getD k default = g at *
        obtain ⟨ft, fk, fd⟩ := f
        obtain ⟨gt, gk, gd⟩ := g
        dsimp only at c0 c1 c2 d0 d1 d2
        have q1 := fun wx => neq_ent wx ft gt fk gk fd gd
        have q3 : Try.prog.eqGuardType Try.prog.depth 102 = false := by kernel_rfl
        go_wp2_with fail
        cases hq : enEq ⟨ft, fk, fd⟩ ⟨gt, gk, gd⟩
        · have HD := hide (unhide HBD hq)
          go_quiet (fail)
          go_wp2_with fail
          go_ret
          exact ⟨by rw [unhide HD]; rfl, below_drewN (unhide HB) _⟩
        · have HN := hide (unhide HNX hq)
          go_quiet (fail)
          go_wp2_with fail
          refine ⟨⟨k + 1, by omega, by go_num, unhide HN, below_drewN (unhide HB) _⟩, ?_⟩
          simp [intOf]; omega
      · obtain rfl : k = y.length := by omega
        have HD := hide (sameN_at x y y.length hgo (by omega) (by omega) (.inr (.inl rfl)))
        have HBW := hide hb
        clear hb hgo
        go_wp2_with fail
        go_ret
        exact ⟨by rw [unhide HD]; rfl, unhide HBW⟩
  · have hxy2 : ¬ (y.length : Int) < (x.length : Int) := by omega
    go_enter Try.func110, Try.ntmps110
    go_wp2_with fail
    go_loopw [13] (fun i wr => ∃ k : Nat, k ≤ x.length ∧ i = .int .i64 k ∧ enTo x y k ∧ Below w.heap.size w wr) (fun i _ => x.length - (intOf i).toNat)
    case atStart => exact ⟨0, Nat.zero_le _, rfl, fun i hi => by omega, Below.refl _ _⟩
    case round =>
      obtain ⟨k, hk, rfl, hgo, hb⟩ := hrel
      by_cases hlt : k < x.length
      · obtain ⟨b, off, rfl, hbl, hsrc⟩ : ∃ b off, a = some ⟨b, off, none⟩ ∧ b < w.heap.size ∧ ∀ i, i < x.length → w.cell? ⟨b, off + i * 3, none⟩ = some (.int .i64 (x.getD i default).t) ∧ w.cell? ⟨b, off + i * 3 + 1, none⟩ = some (.int .i64 (x.getD i default).k) ∧ w.cell? ⟨b, off + i * 3 + 2, none⟩ = some (.string (x.getD i default).d) := by
          rcases unhide HC with h0 | h1
          · omega
          · exact h1
        obtain ⟨b2, off2, rfl, hbl2, hsrc2⟩ : ∃ b off, a2 = some ⟨b, off, none⟩ ∧ b < w.heap.size ∧ ∀ i, i < y.length → w.cell? ⟨b, off + i * 3, none⟩ = some (.int .i64 (y.getD i default).t) ∧ w.cell? ⟨b, off + i * 3 + 1, none⟩ = some (.int .i64 (y.getD i default).k) ∧ w.cell? ⟨b, off + i * 3 + 2, none⟩ = some (.string (y.getD i default).d) := by
          rcases unhide HC2 with h0 | h1
          · omega
          · exact h1
        obtain ⟨s0, s1, s2⟩ := hsrc k (by omega)
        obtain ⟨t0, t1, t2⟩ := hsrc2 k (by omega)
        have c0 := (hb.cell (p := ⟨b, off + k * 3, none⟩) hbl).trans s0
        have c1 := (hb.cell (p := ⟨b, off + k * 3 + 1, none⟩) hbl).trans s1
        have c2 := (hb.cell (p := ⟨b, off + k * 3 + 2, none⟩) hbl).trans s2
        have d0 := (hb.cell (p := ⟨b2, off2 + k * 3, none⟩) hbl2).trans t0
        have d1 := (hb.cell (p := ⟨b2, off2 + k * 3 + 1, none⟩) hbl2).trans t1
        have d2 := (hb.cell (p := ⟨b2, off2 + k * 3 + 2, none⟩) hbl2).trans t2
        have hk0 : (0 : Int) ≤ (k : Int) := by omega
        have hk1 : (k : Int) < (x.length : Int) := by omega
        have hk2 : (k : Int) < (y.length : Int) := by omega
        have HB := hide hb
        have HNX := hide (fun h => hgo.next h)
        have HBD := hide (fun h => sameN_at x y k hgo (by omega) (by omega) (.inr (.inr h)))
        clear hsrc hsrc2 s0 s1 s2 t0 t1 t2 hb hgo
        generalize x.getD k default = f at *
        generalize y.getD k default = g at *
        obtain ⟨ft, fk, fd⟩ := f
        obtain ⟨gt, gk, gd⟩ := g
        dsimp only at c0 c1 c2 d0 d1 d2
        have q1 := fun wx => neq_ent wx ft gt fk gk fd gd
        have q3 : Try.prog.eqGuardType Try.prog.depth 102 = false := by kernel_rfl
        go_wp2_with fail
        cases hq : enEq ⟨ft, fk, fd⟩ ⟨gt, gk, gd⟩
        · have HD := hide (unhide HBD hq)
          go_quiet (fail)
          go_wp2_with fail
          go_ret
          exact ⟨by rw [unhide HD]; rfl, below_drewN (unhide HB) _⟩
        · have HN := hide (unhide HNX hq)
          go_quiet (fail)
          go_wp2_with fail
          refine ⟨⟨k + 1, by omega, by go_num, unhide HN, below_drewN (unhide HB) _⟩, ?_⟩
          simp [intOf]; omega
      · obtain rfl : k = x.length := by omega
        have HD := hide (sameN_at x y x.length hgo (by omega) (by omega) (.inl rfl))
        have HBW := hide hb
        clear hb hgo
        go_wp2_with fail
        go_ret
        exact ⟨by rw [unhide HD]; rfl, unhide HBW⟩
end Go.Proofs.Ytafbdjcoimopfaa
