/- Entries held against each other: slices.Equal, spec.l05Same. -/
import Derived.Test.YtlicgahjdgipkalSta
import Derived.Laws.Cover1
import Derived.Laws.StructEq
namespace Go.Proofs.Ytlicgahjdgipkal
open Go.ChangeShapes Go.WideShapes Go.ChangeAt Go.RowKit
set_option linter.unusedVariables false

def enEq (a b : En) : Bool := (a.t == b.t) && ((a.k == b.k) && (a.d.toList == b.d.toList))
theorem eq_ent (w : World) (ft gt fk gk : Int) (fd gd : ByteArray) : (Op.equalIn 10000 62 (.agg #[.int .i64 ft, .int .i64 fk, .string fd]) (.agg #[.int .i64 gt, .int .i64 gk, .string gd])).run Try.prog w = .ok (enEq ⟨ft, fk, fd⟩ ⟨gt, gk, gd⟩) w := by
  rw [run_equalIn_struct w 9999 62 _ _ (by kernel_rfl) (by kernel_rfl)]
  simp only [Program.fieldsOf, Try.underlying62]
  simp [Op.eqFields, go_sem, enEq]
  by_cases h1 : ft = gt
  · by_cases h2 : fk = gk
    · by_cases h3 : fd.toList = gd.toList
      · simp [h1, h2, h3]
      · simp [h1, h2, h3]
    · simp [h1, h2]
  · simp [h1]
theorem neq_ent (w : World) (ft gt fk gk : Int) (fd gd : ByteArray) : (binOp .neq 62 (.agg #[.int .i64 ft, .int .i64 fk, .string fd]) (.agg #[.int .i64 gt, .int .i64 gk, .string gd])).run Try.prog w = .ok (.bool (!(enEq ⟨ft, fk, fd⟩ ⟨gt, gk, gd⟩))) w := by
  rw [run_neq_struct, eq_ent]; rfl
theorem eql_ent (w : World) (ft gt fk gk : Int) (fd gd : ByteArray) : (binOp .eql 62 (.agg #[.int .i64 ft, .int .i64 fk, .string fd]) (.agg #[.int .i64 gt, .int .i64 gk, .string gd])).run Try.prog w = .ok (.bool (enEq ⟨ft, fk, fd⟩ ⟨gt, gk, gd⟩)) w := by
  rw [run_eql_struct, eq_ent]; rfl
def enTo (x y : List En) (k : Nat) : Prop := ∀ i, i < k → enEq (x.getD i default) (y.getD i default) = true
theorem enTo.next {x y : List En} {k : Nat} (h : enTo x y k) (hk : enEq (x.getD k default) (y.getD k default) = true) : enTo x y (k + 1) := fun i hi => by
  by_cases e : i = k
  · subst e; exact hk
  · exact h i (by omega)
def eqEns (x y : List En) : Bool := decide (x.length = y.length) && (List.range x.length).all (fun i => enEq (x.getD i default) (y.getD i default))
theorem eqEns_bad {x y : List En} {k : Nat} (hk : k < x.length) (h : enEq (x.getD k default) (y.getD k default) = false) : eqEns x y = false := by
  have : (List.range x.length).all (fun i => enEq (x.getD i default) (y.getD i default)) = false := by
    rw [List.all_eq_false]; exact ⟨k, by simpa using hk, by rw [h]; decide⟩
  unfold eqEns; rw [this]; simp
theorem eqEns_all {x y : List En} (hl : x.length = y.length) (h : enTo x y x.length) : eqEns x y = true := by
  have : (List.range x.length).all (fun i => enEq (x.getD i default) (y.getD i default)) = true := by
    rw [List.all_eq_true]; exact fun i hi => h i (by simpa using hi)
  unfold eqEns; rw [this, decide_eq_true hl]; simp

set_option maxRecDepth 100000 in
set_option maxHeartbeats 1000000 in
theorem equal_any (u v : Value) (x y : List En) (w : World) (hx : Ens w u x) (hy : Ens w v y) (hlx : x.length ≤ 1048576) (hly : y.length ≤ 1048576) :
    Calls Try.prog 55 #[u, v] w fun e w' => e = .returned (.bool (eqEns x y)) ∧ Below w.heap.size w w' := by
  obtain ⟨a, cap, rfl, hn, hm, hc⟩ := hx
  obtain ⟨a2, cap2, rfl, hn2, hm2, hc2⟩ := hy
  have HC := hide hc
  have HC2 := hide hc2
  clear hc hc2 hn hm hn2 hm2
  by_cases hl : x.length = y.length
  case neg =>
    have HD : Hid (eqEns x y = false) := hide (by unfold eqEns; rw [decide_eq_false hl]; simp)
    have hl2 : ((x.length : Int) == (y.length : Int)) = false := by rw [beq_eq_false_iff_ne]; omega
    go_enter Try.func55, Try.ntmps55
    go_wp2_with fail
    go_ret
    exact ⟨ret_bool (unhide HD).symm, Below.refl _ _⟩
  have HL := hide hl
  have hl' := hl.symm
  rw [hl'] at HC2 hly ⊢
  clear hl hl'
  go_enter Try.func55, Try.ntmps55
  go_wp2_with fail
  go_loopw [13] (fun i wr => ∃ k : Nat, k ≤ x.length ∧ i = .int .i64 k ∧ enTo x y k ∧ Below w.heap.size w wr) (fun i _ => x.length - (intOf i).toNat)
  case atStart => exact ⟨0, Nat.zero_le _, rfl, fun i hi => by omega, Below.refl _ _⟩
  case round =>
    obtain ⟨k, hk, rfl, hgo, hb⟩ := hrel
    by_cases hlt : k < x.length
    · obtain ⟨b, off, rfl, hbl, hsrc⟩ : ∃ b off, a = some ⟨b, off, none⟩ ∧ b < w.heap.size ∧ ∀ i, i < x.length → w.cell? ⟨b, off + i * 3, none⟩ = some (.int .i64 (x.getD i default).t) ∧ w.cell? ⟨b, off + i * 3 + 1, none⟩ = some (.int .i64 (x.getD i default).k) ∧ w.cell? ⟨b, off + i * 3 + 2, none⟩ = some (.string (x.getD i default).d) := by
        rcases unhide HC with h0 | h1
        · omega
        · exact h1
      obtain ⟨b2, off2, rfl, hbl2, hsrc2⟩ : ∃ b off, a2 = some ⟨b, off, none⟩ ∧ b < w.heap.size ∧ ∀ i, i < x.length → w.cell? ⟨b, off + i * 3, none⟩ = some (.int .i64 (y.getD i default).t) ∧ w.cell? ⟨b, off + i * 3 + 1, none⟩ = some (.int .i64 (y.getD i default).k) ∧ w.cell? ⟨b, off + i * 3 + 2, none⟩ = some (.string (y.getD i default).d) := by
        rcases unhide HC2 with h0 | h1
        · omega
        · exact h1
      obtain ⟨s0, s1, s2⟩ := hsrc k hlt
      obtain ⟨t0, t1, t2⟩ := hsrc2 k hlt
      have c0 := (hb.cell (p := ⟨b, off + k * 3, none⟩) hbl).trans s0
      have c1 := (hb.cell (p := ⟨b, off + k * 3 + 1, none⟩) hbl).trans s1
      have c2 := (hb.cell (p := ⟨b, off + k * 3 + 2, none⟩) hbl).trans s2
      have d0 := (hb.cell (p := ⟨b2, off2 + k * 3, none⟩) hbl2).trans t0
      have d1 := (hb.cell (p := ⟨b2, off2 + k * 3 + 1, none⟩) hbl2).trans t1
      have d2 := (hb.cell (p := ⟨b2, off2 + k * 3 + 2, none⟩) hbl2).trans t2
      have hk0 : (0 : Int) ≤ (k : Int) := by omega
      have hk1 : (k : Int) < (x.length : Int) := by omega
      have HB := hide hb
      have HGo := hide hgo
      have HNX := hide (fun h => hgo.next h)
      have HBD := hide (fun h => eqEns_bad (x := x) (y := y) (k := k) hlt h)
      clear hsrc hsrc2 s0 s1 s2 t0 t1 t2 hb hgo
      generalize x.getD k default = f at *
      generalize y.getD k default = g at *
      obtain ⟨ft, fk, fd⟩ := f
      obtain ⟨gt, gk, gd⟩ := g
      dsimp only at c0 c1 c2 d0 d1 d2
      have q1 := fun wx => neq_ent wx ft gt fk gk fd gd
      have q3 : Try.prog.eqGuardType Try.prog.depth 62 = false := by kernel_rfl
      go_wp2_with fail
      cases hq : enEq ⟨ft, fk, fd⟩ ⟨gt, gk, gd⟩
      · have HD := hide (unhide HBD hq)
        go_quiet (fail)
        go_wp2_with fail
        go_ret
        exact ⟨ret_bool (unhide HD).symm, below_drewN (unhide HB) _⟩
      · have HN := hide (unhide HNX hq)
        go_quiet (fail)
        go_wp2_with fail
        refine ⟨⟨k + 1, by omega, by go_num, unhide HN, below_drewN (unhide HB) _⟩, ?_⟩
        simp [intOf]; omega
    · obtain rfl : k = x.length := by omega
      have HD := hide (eqEns_all (unhide HL) hgo)
      have HBW := hide hb
      clear hb hgo
      go_wp2_with fail
      go_ret
      exact ⟨ret_bool (unhide HD).symm, unhide HBW⟩
def eqSt (tm vo : Int) (x : List En) (tm2 vo2 : Int) (y : List En) : Bool := (tm == tm2) && ((vo == vo2) && eqEns x y)
end Go.Proofs.Ytlicgahjdgipkal
