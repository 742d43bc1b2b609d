/- Slices of numbers: what can be read, what is one's own. laws.at and laws.sameInts, walked. Bytes of a slice that can be read, put behind a row of the call's own. -/
import Derived.Test.YtkcpdjeemdlgcaaDoorIn
import Derived.Test.YtkcpdjeemdlgcaaDoorWrS
import Derived.Deep.QuietTactic
import Derived.BigQuiet
import Derived.Test.YtkcpdjeemdlgcaaDoorBytes
import Derived.Test.YtkcpdjeemdlgcaaDoorWr
import Derived.Maps.AppendAt
import Derived.Deep.Upon
namespace Go.Proofs.YtkcpdjeemdlgcaaDoor
open Go.ChangeShapes Go.WideShapes Go.ChangeAt Go.RowKit
set_option linter.unusedVariables false

theorem info3 : (Tryd.prog.info? 3).map (fun i => (i.zero, i.size, i.bytes)) = some (some (.int .i64 0), 1, 8) := by kernel_rfl
/-- The value is a slice that holds the numbers l. -/
def Ints (w : World) (v : Value) (l : List Int) : Prop :=
  ∃ a cap, v = .slice a l.length cap ∧ l.length ≤ maxLen ∧ (l.length = 0 ∨ ∃ b off, a = some ⟨b, off, none⟩ ∧ b < w.heap.size ∧ ∀ i, i < l.length → w.cell? ⟨b, off + i, none⟩ = some (.int .i64 (l.getD i 0)))
theorem Ints.kept {T : Nat → Prop} {w w' : World} {v : Value} {l : List Int} (h : Ints w v l) (ht : Touch T w w') (hn : ∀ k, v.ownBlock = some k → ¬ T k) : Ints w' v l := by
  obtain ⟨a, cap, rfl, hm, hc⟩ := h
  refine ⟨a, cap, rfl, hm, ?_⟩
  rcases hc with h0 | ⟨b, off, rfl, hlt, hcell⟩
  · exact .inl h0
  · exact .inr ⟨b, off, rfl, Nat.lt_of_lt_of_le hlt ht.size, fun i hi => (ht.cell (p := ⟨b, off + i, none⟩) hlt (hn b rfl)).trans (hcell i hi)⟩
theorem Ints.below {w w' : World} {v : Value} {l : List Int} (h : Ints w v l) (hb : Below w.heap.size w w') : Ints w' v l := h.kept (T := fun _ => False) (Touch.ofBelow hb) (fun _ _ h => h)

theorem drewN_two (w : World) (n m : Nat) : (w.drewN n).drewN m = w.drewN (n + m) := by simp [World.drewN, Nat.add_assoc]
def OwnI (B : Nat) (w : World) (v : Value) (l : List Int) : Prop := w.ownsRow B 3 1 v l.length (l.map (Value.int .i64))
theorem OwnI.mono {B B' : Nat} {w : World} {v : Value} {l : List Int} (h : OwnI B w v l) (hB : B' ≤ B) : OwnI B' w v l := by
  obtain ⟨hl, hc⟩ := h
  refine ⟨hl, ?_⟩
  rcases hc with hn | ⟨g, cap, cur, hv, hb, rest⟩
  · exact .inl hn
  · exact .inr ⟨g, cap, cur, hv, by omega, rest⟩
theorem OwnI.empty (w : World) (B X : Nat) (hX : w.heap.size = X) (hB : B ≤ X) : OwnI B (w.alloc (.cells #[] 3)) (.slice (some ⟨X, 0, none⟩) 0 0) [] := by
  subst hX
  exact World.ownsRow_made w #[] 0 hB (by unfold maxLen; omega) rfl
theorem ret_two_b {a : Value} {x y : Bool} (h : x = y) : Ending.returned (.tuple #[a, .bool x]) = .returned (.tuple #[a, .bool y]) := by rw [h]
theorem bytesI_bAt (s : ByteArray) (k : Nat) : (bytesI s).getD k 0 = bAt s k := by
  unfold bytesI bAt
  by_cases h : k < s.data.toList.length
  · rw [List.getD_eq_getElem?_getD, List.getElem?_map, List.getElem?_eq_getElem h, List.getD_eq_getElem?_getD, List.getElem?_eq_getElem h]; rfl
  · rw [List.getD_eq_getElem?_getD, List.getElem?_map, List.getElem?_eq_none (by omega), List.getD_eq_getElem?_getD, List.getElem?_eq_none (by omega)]; rfl
theorem bytesI_take (s : ByteArray) (k : Nat) (h : k < s.size) : (bytesI s).take (k + 1) = (bytesI s).take k ++ [bAt s k] := by
  have hl : k < (bytesI s).length := by rw [bytesI_len]; exact h
  rw [List.take_succ_eq_append_getElem hl]
  congr 1
  rw [← bytesI_bAt, List.getD_eq_getElem?_getD, List.getElem?_eq_getElem hl]; rfl

end Go.Proofs.YtkcpdjeemdlgcaaDoor
namespace Go.Proofs.YtkcpdjeemdlgcaaDoor
open Go.ChangeShapes Go.WideShapes Go.ChangeAt Go.RowKit
set_option linter.unusedVariables false

theorem wrapA (n : Int) (h0 : 0 ≤ n) (h1 : n < 9223372036854775808) : IntKind.i64.wrap n = n := by
  simp only [IntKind.wrap, IntKind.bits, IntKind.signed]
  simp
  omega
set_option maxRecDepth 100000 in
set_option maxHeartbeats 1000000 in
/-- What is drawn lies below n. -/
theorem at_any (v : Value) (l : List Int) (i n : Int) (w : World) (h : Bytes w v l) (hi0 : 0 ≤ i) (hi : i ≤ 1000) (hn : 2 ≤ n) (hn2 : n ≤ 1048576000) :
    Calls Tryd.prog 14 #[v, .int .i64 i, .int .i64 n] w fun e w' => ∃ r : Int, e = .returned (.int .i64 r) ∧ 0 ≤ r ∧ r < n ∧ ∃ d, w' = w.drewN d := by
  obtain ⟨a, cap, rfl, hm, hc, hr⟩ := h
  unfold maxLen at hm
  have g1 : ¬ n ≤ 1 := by omega
  have g2 : (n == 0) = false := by simp; omega
  have g3 : n ≠ 0 := by omega
  by_cases h0 : l.length = 0
  · have m1 : IntKind.i64.wrap (i * 7) = i * 7 := wrapA _ (by omega) (by omega)
    have m5 : (i * 7).tmod n = i * 7 % n := Int.tmod_eq_emod_of_nonneg (by omega)
    have m6 : 0 ≤ i * 7 % n := Int.emod_nonneg _ (by omega)
    have m7 : i * 7 % n < n := Int.emod_lt_of_pos _ (by omega)
    have m8 : IntKind.i64.wrap (i * 7 % n) = i * 7 % n := wrapA _ (by omega) (by omega)
    have g4 : (l.length : Int) = 0 := by omega
    have g5 : ((l.length : Int) == 0) = true := by rw [g4]; rfl
    clear hc hr
    go_enter Tryd.func14, Tryd.ntmps14
    go_wp2_with fail
    go_ret
    exact ⟨_, rfl, m6, m7, 0, rfl⟩
  · obtain ⟨b, off, rfl, hbl, hsrc⟩ : ∃ b off, a = some ⟨b, off, none⟩ ∧ b < w.heap.size ∧ ∀ i, i < l.length → w.cell? ⟨b, off + i, none⟩ = some (.int .u8 (l.getD i 0)) := by
      rcases hc with h0 | h1
      · omega
      · exact h1
    have hL : (l.length : Int) ≠ 0 := by omega
    have hL2 : ((l.length : Int) == 0) = false := beq_eq_false_iff_ne.2 hL
    have m1 : IntKind.i64.wrap (i + 1) = i + 1 := wrapA _ (by omega) (by omega)
    have q5 : i.tmod (l.length : Int) = i % (l.length : Int) := Int.tmod_eq_emod_of_nonneg (by omega)
    have q6 : 0 ≤ i % (l.length : Int) := Int.emod_nonneg _ (by omega)
    have q7 : i % (l.length : Int) < (l.length : Int) := Int.emod_lt_of_pos _ (by omega)
    have p5 : (i + 1).tmod (l.length : Int) = (i + 1) % (l.length : Int) := Int.tmod_eq_emod_of_nonneg (by omega)
    have p6 : 0 ≤ (i + 1) % (l.length : Int) := Int.emod_nonneg _ (by omega)
    have p7 : (i + 1) % (l.length : Int) < (l.length : Int) := Int.emod_lt_of_pos _ (by omega)
    have t5 : i.tdiv (l.length : Int) = i / (l.length : Int) := Int.tdiv_eq_ediv_of_nonneg hi0
    have t6 : 0 ≤ i / (l.length : Int) := Int.ediv_nonneg hi0 (by omega)
    have t7 : i / (l.length : Int) ≤ i := Int.ediv_le_self _ hi0
    obtain ⟨x, hx⟩ : ∃ x, x = i % (l.length : Int) := ⟨_, rfl⟩
    obtain ⟨y, hy⟩ : ∃ y, y = (i + 1) % (l.length : Int) := ⟨_, rfl⟩
    obtain ⟨z, hz⟩ : ∃ z, z = i / (l.length : Int) := ⟨_, rfl⟩
    rw [← hx] at q5 q6 q7
    rw [← hy] at p5 p6 p7
    rw [← hz] at t5 t6 t7
    clear hx hy hz
    have c1 := hsrc x.toNat (by omega)
    have c2 := hsrc y.toNat (by omega)
    have d1 := hr x.toNat
    have d2 := hr y.toNat
    clear hsrc hr hc
    generalize l.getD x.toNat 0 = bx at *
    generalize l.getD y.toNat 0 = by' at *
    have q8 : IntKind.i64.wrap x = x := wrapA _ (by omega) (by omega)
    have p8 : IntKind.i64.wrap y = y := wrapA _ (by omega) (by omega)
    have t8 : IntKind.i64.wrap z = z := wrapA _ (by omega) (by omega)
    have w1 : IntKind.i64.wrap bx = bx := wrapA _ (by omega) (by omega)
    have w2 : IntKind.i64.wrap by' = by' := wrapA _ (by omega) (by omega)
    have w3 : IntKind.i64.wrap (bx * 31) = bx * 31 := wrapA _ (by omega) (by omega)
    have w4 : IntKind.i64.wrap (bx * 31 + by') = bx * 31 + by' := wrapA _ (by omega) (by omega)
    have w5 : IntKind.i64.wrap (bx * 31 + by' + z) = bx * 31 + by' + z := wrapA _ (by omega) (by omega)
    have m5 : (bx * 31 + by' + z).tmod n = (bx * 31 + by' + z) % n := Int.tmod_eq_emod_of_nonneg (by omega)
    have m6 : 0 ≤ (bx * 31 + by' + z) % n := Int.emod_nonneg _ (by omega)
    have m7 : (bx * 31 + by' + z) % n < n := Int.emod_lt_of_pos _ (by omega)
    have m8 : IntKind.i64.wrap ((bx * 31 + by' + z) % n) = (bx * 31 + by' + z) % n := wrapA _ (by omega) (by omega)
    go_enter Tryd.func14, Tryd.ntmps14
    go_wp2_with fail
    go_quiet (fail)
    go_wp2_with fail
    go_ret
    exact ⟨_, rfl, m6, m7, _, rfl⟩

end Go.Proofs.YtkcpdjeemdlgcaaDoor
namespace Go.Proofs.YtkcpdjeemdlgcaaDoor
open Go.ChangeShapes Go.WideShapes Go.ChangeAt Go.RowKit
set_option linter.unusedVariables false

theorem run_append_bytes {P : Program} (w : World) (base : Nat) (t ty e : TypeId) (i : TypeInfo) (ht : P.underlying t = some (.slice e)) (hi : P.info? e = some i) (hz : i.zero = some (.int .u8 0)) (hsize : i.size = 1) (hby : i.bytes = 1)
    (v : Value) (n : Nat) (xs : List Value) (hown : w.ownsRow base e 1 v n xs) (x : Value) (l : List Int) (hB : Bytes w x l) (h63 : n + l.length ≤ 140737488355328) (hbase : base ≤ w.heap.size) :
    ∃ v' w', (Builtin.append_ #[t, t] ty #[v, x]).run P w = .ok v' w' ∧ w'.ownsRow base e 1 v' (n + l.length) (xs ++ l.map (Value.int .u8)) ∧ w.grownBy w' v.ownBlock ∧ (v'.ownBlock = v.ownBlock ∨ v'.ownBlock = some w.heap.size) := by
  obtain ⟨a, cap, rfl, hm, hc, hr⟩ := hB
  cases a with
  | none =>
    have hl0 : l.length = 0 := by
      rcases hc with h0 | ⟨b, off, ha, _⟩
      · exact h0
      · cases ha
    obtain rfl := List.eq_nil_of_length_eq_zero hl0
    refine ⟨v, w, ?_, by simpa using hown, World.grownBy.refl _ _, .inl rfl⟩
    rcases hown.2 with ⟨rfl, _⟩ | ⟨g, cp, cur, rfl, _, _, hnc, _⟩
    · exact Go.run_append_nothing w t t ty e i ht hi none 0 0 (Nat.le_refl _) _ (Go.Src.ofNil (w := w) ht cap)
    · exact Go.run_append_nothing w t t ty e i ht hi _ n cp hnc _ (Go.Src.ofNil (w := w) ht cap)
  | some ad =>
    have hnews : ∀ j u, (l.map (Value.int .u8))[j]? = some u → w.cell? (ad.add j) = some u := fun j u hu => by
      rw [List.getElem?_map] at hu
      by_cases hj : j < l.length
      · rcases hc with h0 | ⟨b, off, ha, _, hcell⟩
        · omega
        · cases ha
          have hadd : (⟨b, off, none⟩ : Addr).add j = ⟨b, off + j, none⟩ := by unfold Addr.add; split <;> simp_all
          rw [hadd, hcell j hj]
          rw [List.getElem?_eq_getElem hj] at hu
          rw [List.getD_eq_getElem?_getD, List.getElem?_eq_getElem hj]
          simpa using hu
      · rw [List.getElem?_eq_none (by omega)] at hu; cases hu
    obtain ⟨v', w', hr', h2, h3, h4, h5⟩ := run_append_own_at (P := P) w base t ty e i (.int .u8 0) 1 1 ht hi hz hsize hby rfl (by omega) v n xs hown ad l.length cap (l.map (Value.int .u8)) (by simp) hnews (by simp [Value.oneCell']) (by unfold maxLen; omega) (by omega) hbase
    exact ⟨v', w', hr', h2, h3, h5⟩
theorem wpList_append_bytes {P : Program} (w : World) {ops : Array Oper} {rest : List Oper} {o : Oper} {a : Act} {Q : Exit → Act → World → Prop} (hgd : o.guard = none) (sl x : Operand) (t : TypeId)
    (ho : o.op = .call { callee := .builtin .append, args := #[sl, x], argTypes := #[t, t] })
    (base : Nat) (e : TypeId) (i : TypeInfo) (ht : P.underlying t = some (.slice e)) (hi : P.info? e = some i) (hz : i.zero = some (.int .u8 0)) (hsize : i.size = 1) (hby : i.bytes = 1)
    (v : Value) (n : Nat) (xs : List Value) (hs : a.eval sl = v) (hown : w.ownsRow base e 1 v n xs) (xv : Value) (l : List Int) (hx : a.eval x = xv) (hB : Bytes w xv l) (h63 : n + l.length ≤ 140737488355328) (hpos : 0 < n + l.length) (hbase : base ≤ w.heap.size)
    (h : ∀ g cap w', w'.ownsRow base e 1 (.slice (some ⟨g, 0, none⟩) (n + l.length) cap) (n + l.length) (xs ++ l.map (Value.int .u8)) → w.grownBy w' v.ownBlock → g < w'.heap.size → base ≤ g → wpList P ops Q rest (a.put o.dst (.slice (some ⟨g, 0, none⟩) (n + l.length) cap)) w') :
    wpList P ops Q (o :: rest) a w := by
  refine wpList_plain hgd fun K hK => ?_
  obtain ⟨v', w', hr, h2, h3, h4⟩ := run_append_bytes (P := P) w base t o.type e i ht hi hz hsize hby v n xs hown xv l hB h63 hbase
  unfold Oper.wp execOp
  simp only [ho, resolve, invoke, builtin, Sem.run_bind, Sem.run_pure, Result.andThen_ok, List.map_toArray, List.map_cons, List.map_nil, hs, hx, hr]
  obtain ⟨g, cap, rfl, hb, hlt⟩ := h2.form hpos
  exact hK _ _ (h g cap w' h2 h3 hlt hb)
end Go.Proofs.YtkcpdjeemdlgcaaDoor
