/- What the proof of the claim needs (joined by program): ApB Cpy. -/
import Derived.Test.YtnhhnjmjodmacaaGreatDoorQaa03
import Derived.Test.YtnhhnjmjodmacaaGreatDoorQaa00
import Derived.Laws.CopyRow
import Derived.Laws.AppendOwn
import Derived.Lib.Overlaps
namespace Go.Proofs.YtnhhnjmjodmacaaGreatDoor
set_option maxRecDepth 100000
set_option maxHeartbeats 8000000
open Go.ChangeShapes Go.WideShapes Go.ChangeAt Go.RowKit Go.Deep
set_option linter.unusedVariables false
set_option linter.unusedSimpArgs false
theorem wrapSe2 (n : Int) (h0 : -9223372036854775808 ≤ n) (h1 : n < 9223372036854775808) : IntKind.i64.wrap n = n := by
 simp only [IntKind.wrap, IntKind.bits, IntKind.signed]
 simp
 omega
def cmpV (a b : Int) : Int := if a < b then -1 else if b < a then 1 else 0
theorem isNaN_any (x : Int) (w : World) : Calls Tryz.prog 116 #[.int .i64 x] w fun e w' => e = .returned (.bool false) ∧ w' = w := by
 have b1 : (x == x) = true := by simp
 have b2 : (x != x) = false := by simp
 go_enter Tryz.func116, Tryz.ntmps116
 go_wp2_with fail
 go_ret
 exact ⟨rfl, rfl⟩
theorem compare_any (x y : Int) (w : World) : Calls Tryz.prog 100 #[.int .i64 x, .int .i64 y] w fun e w' => e = .returned (.int .i64 (cmpV x y)) ∧ w' = w := by
 have E : Hid (cmpV x y = if x < y then -1 else if y < x then 1 else 0) := Hd rfl
 generalize cmpV x y = r at *
 have H1 := Hd (fun wx => isNaN_any x wx)
 have H2 := Hd (fun wx => isNaN_any y wx)
 go_enter Tryz.func100, Tryz.ntmps100
 go_wp2_with fail
 refine (uh H1 _).mono ?_
 rintro e w' ⟨rfl, hw'⟩
 have hw2 := hw'.symm
 clear hw'
 subst hw2
 go_wp2_with fail
 refine (uh H2 _).mono ?_
 rintro e w' ⟨rfl, hw'⟩
 have hw2 := hw'.symm
 clear hw'
 subst hw2
 clear H1 H2
 by_cases h1 : x < y
 ·rw [if_pos h1] at E
  go_wp2_with fail
  go_ret
  exact ⟨ret_int (uh E).symm, rfl⟩
 ·rw [if_neg h1] at E
  by_cases h2 : y < x
  ·rw [if_pos h2] at E
   go_wp2_with fail
   go_ret
   exact ⟨ret_int (uh E).symm, rfl⟩
  ·rw [if_neg h2] at E
   go_wp2_with fail
   go_ret
   exact ⟨ret_int (uh E).symm, rfl⟩
theorem session1_any (s : Se) (id : Int) (w : World) : Calls Tryz.prog 99 #[.agg #[.int .i64 s.id, .int .i64 s.sq, .int .i64 s.kd, .int .i64 s.pl, .string s.vl], .int .i64 id] w fun e w' => e = .returned (.int .i64 (cmpV s.id id)) ∧ Below w.heap.size w w' := by
 obtain ⟨f0, f1, f2, f3, f4⟩ := s
 dsimp only
 have H1 := Hd (fun wx => compare_any f0 id wx)
 generalize cmpV f0 id = r at *
 go_enter Tryz.func99, Tryz.ntmps99
 go_wp2_with fail
 refine (uh H1 _).mono ?_
 rintro e w' ⟨rfl, hw'⟩
 have hw2 := hw'.symm
 clear hw'
 subst hw2
 go_wp2_with fail
 go_ret
 exact ⟨rfl, (Below.refl _ _).alloc (Nat.le_refl _) _⟩
theorem bsearch_any (v : Value) (ss : List Se) (id : Int) (w : World) (h : Sess w v ss) (hs : ss.length ≤ 1048576) (hr : RiseS ss) :
  Calls Tryz.prog 98 #[v, .int .i64 id, .func (.func 99) #[] #[]] w fun e w' => e = .returned (.tuple #[.int .i64 (posS ss id), .bool (hasS ss id)]) ∧ Below w.heap.size w w' := by
 have HP := Hd (pos_is (id := id) hr)
 have HR := Hd hr
 obtain ⟨a, cap, rfl, hn, hm, hc⟩ := h
 have HC := Hd hc
 clear hc hn hm hr
 go_enter Tryz.func98, Tryz.ntmps98
 go_wp2_with fail
 go_loopw [9, 10, 11] (fun vi vj _ wr => ∃ i j : Nat, i ≤ j ∧ j ≤ ss.length ∧ vi = .int .i64 i ∧ vj = .int .i64 j ∧ Hid (∀ k, k < i → (ss.getD k default).id < id) ∧ Hid (∀ k, j ≤ k → k < ss.length → id ≤ (ss.getD k default).id) ∧ Below w.heap.size w wr) (fun vi vj _ _ => (intOf vj).toNat - (intOf vi).toNat)
 case atStart => exact ⟨0, ss.length, Nat.zero_le _, Nat.le_refl _, rfl, rfl, Hd (fun k hk => by omega), Hd (fun k h1 h2 => by omega), Below.refl _ _⟩
 case round =>
  obtain ⟨i, j, hij, hj, rfl, rfl, hlo, hhi, hb⟩ := hrel
  by_cases hlt : i < j
  ·have q0 : (i : Int) < (j : Int) := by omega
   have q1 : IntKind.i64.wrap ((i : Int) + (j : Int)) = (i : Int) + (j : Int) := wrapSe2 _ (by omega) (by omega)
   obtain ⟨q, q2, hq1, hq2⟩ : ∃ q : Nat, ((i : Int) + (j : Int)) / 2 = (q : Int) ∧ i ≤ q ∧ q < j := ⟨(i + j) / 2, by omega, by omega, by omega⟩
   obtain ⟨b, off, rfl, hbl, hsrc⟩ : ∃ b off, a = some ⟨b, off, none⟩ ∧ b < w.heap.size ∧ ∀ i, i < ss.length → w.cell? ⟨b, off + i * 5, none⟩ = some (.int .i64 (ss.getD i default).id) ∧ w.cell? ⟨b, off + i * 5 + 1, none⟩ = some (.int .i64 (ss.getD i default).sq) ∧ w.cell? ⟨b, off + i * 5 + 2, none⟩ = some (.int .i64 (ss.getD i default).kd) ∧ w.cell? ⟨b, off + i * 5 + 3, none⟩ = some (.int .i64 (ss.getD i default).pl) ∧ w.cell? ⟨b, off + i * 5 + 4, none⟩ = some (.string (ss.getD i default).vl) := by
    rcases uh HC with h0 | h1
    ·omega
    ·exact h1
   obtain ⟨s0, s1, s2, s3, s4⟩ := hsrc q (by omega)
   have c0 := (hb.cell (p := ⟨b, off + q * 5, none⟩) hbl).trans s0
   have c1 := (hb.cell (p := ⟨b, off + q * 5 + 1, none⟩) hbl).trans s1
   have c2 := (hb.cell (p := ⟨b, off + q * 5 + 2, none⟩) hbl).trans s2
   have c3 := (hb.cell (p := ⟨b, off + q * 5 + 3, none⟩) hbl).trans s3
   have c4 := (hb.cell (p := ⟨b, off + q * 5 + 4, none⟩) hbl).trans s4
   have m0 : (0 : Int) ≤ (q : Int) := by omega
   have m1 : (q : Int) < (ss.length : Int) := by omega
   have HB := Hd hb
   have hbs := hb.size
   have HX := Hd (And.intro hq1 hq2)
   have HRS := HR
   clear hsrc s0 s1 s2 s3 s4 hb hq1 hq2
   have HT := Hd (fun wx => session1_any (ss.getD q default) id wx)
   obtain ⟨f, hf⟩ : ∃ f, f = ss.getD q default := ⟨_, rfl⟩
   have HFe := Hd hf
   rw [← hf] at c0 c1 c2 c3 c4 HT
   clear hf
   obtain ⟨f0, f1, f2, f3, f4⟩ := f
   dsimp only at c0 c1 c2 c3 c4 HT
   have HID := Hd (show (ss.getD q default).id = f0 by rw [← uh HFe])
   go_wp2_with fail
   refine (uh HT wr).mono ?_
   rintro e w2 ⟨rfl, hb2⟩
   have HB2 := Hd ((uh HB).trans (hb2.mono hbs))
   clear hb2 HB HT c0 c1 c2 c3 c4
   by_cases hlo2 : f0 < id
   ·have e1 : cmpV f0 id = -1 := by unfold cmpV; rw [if_pos hlo2]
    rw [e1]
    clear e1
    have q3 : IntKind.i64.wrap ((q : Int) + 1) = (q : Int) + 1 := wrapSe2 _ (by omega) (by omega)
    go_wp2_with fail
    obtain ⟨x1, x2⟩ := uh HX
    refine ⟨⟨q + 1, j, by omega, hj, by push_cast; rfl, rfl, Hd (fun k hk => ?_), hhi, uh HB2⟩, ?_⟩
    ·by_cases e : k = q
     ·rw [e, uh HID]; exact hlo2
     ·have := uh HRS k q (by omega) (by omega)
      rw [uh HID] at this
      omega
    ·simp [intOf]; omega
   ·have e1 : ¬ cmpV f0 id < 0 := by unfold cmpV; rw [if_neg hlo2]; split <;> omega
    generalize cmpV f0 id = cv at *
    go_wp2_with fail
    obtain ⟨x1, x2⟩ := uh HX
    refine ⟨⟨i, q, x1, by omega, rfl, rfl, hlo, Hd (fun k h1 h2 => ?_), uh HB2⟩, ?_⟩
    ·by_cases e : k = q
     ·rw [e, uh HID]; omega
     ·have := uh HRS q k (by omega) h2
      rw [uh HID] at this
      omega
    ·simp [intOf]; omega
  ·obtain rfl : i = j := by omega
   have HPi : Hid (posS ss id = i) := Hd ((uh HP).uniq ⟨hj, uh hlo, uh hhi⟩)
   have HHa : Hid (hasS ss id = decide (i < ss.length ∧ (ss.getD i default).id = id)) := Hd (by unfold hasS; rw [uh HPi])
   have HB := Hd hb
   have hbs := hb.size
   by_cases hin : i < ss.length
   ·obtain ⟨b, off, rfl, hbl, hsrc⟩ : ∃ b off, a = some ⟨b, off, none⟩ ∧ b < w.heap.size ∧ ∀ i, i < ss.length → w.cell? ⟨b, off + i * 5, none⟩ = some (.int .i64 (ss.getD i default).id) ∧ w.cell? ⟨b, off + i * 5 + 1, none⟩ = some (.int .i64 (ss.getD i default).sq) ∧ w.cell? ⟨b, off + i * 5 + 2, none⟩ = some (.int .i64 (ss.getD i default).kd) ∧ w.cell? ⟨b, off + i * 5 + 3, none⟩ = some (.int .i64 (ss.getD i default).pl) ∧ w.cell? ⟨b, off + i * 5 + 4, none⟩ = some (.string (ss.getD i default).vl) := by
     rcases uh HC with h0 | h1
     ·omega
     ·exact h1
    obtain ⟨s0, s1, s2, s3, s4⟩ := hsrc i hin
    have c0 := (hb.cell (p := ⟨b, off + i * 5, none⟩) hbl).trans s0
    have c1 := (hb.cell (p := ⟨b, off + i * 5 + 1, none⟩) hbl).trans s1
    have c2 := (hb.cell (p := ⟨b, off + i * 5 + 2, none⟩) hbl).trans s2
    have c3 := (hb.cell (p := ⟨b, off + i * 5 + 3, none⟩) hbl).trans s3
    have c4 := (hb.cell (p := ⟨b, off + i * 5 + 4, none⟩) hbl).trans s4
    have m0 : (0 : Int) ≤ (i : Int) := by omega
    have m1 : (i : Int) < (ss.length : Int) := by omega
    have HT := Hd (fun wx => session1_any (ss.getD i default) id wx)
    clear hsrc s0 s1 s2 s3 s4 hb hlo hhi HR HP
    generalize ss.getD i default = f at *
    obtain ⟨f0, f1, f2, f3, f4⟩ := f
    dsimp only at c0 c1 c2 c3 c4 HT HHa
    go_wp2_with fail
    refine (uh HT wr).mono ?_
    rintro e w2 ⟨rfl, hb2⟩
    have HB2 := Hd ((uh HB).trans (hb2.mono hbs))
    clear hb2 HB HT c0 c1 c2 c3 c4
    by_cases heq : f0 = id
    ·have e1 : cmpV f0 id = 0 := by unfold cmpV; rw [if_neg (by omega), if_neg (by omega)]
     rw [e1]
     clear e1
     have HH2 : Hid (hasS ss id = true) := Hd (by rw [uh HHa]; simp [hin, heq])
     go_wp2_with fail
     refine bodyPost_ret (v := .tuple #[.int .i64 (i : Int), .bool true]) (by simp [results, Tryz.results98, go_sem]) rfl ?_
     rw [uh HPi, uh HH2]
     exact ⟨rfl, uh HB2⟩
    ·have e1 : (cmpV f0 id == 0) = false := by rw [beq_eq_false_iff_ne]; unfold cmpV; split <;> (try split) <;> omega
     generalize cmpV f0 id = cv at *
     have HH2 : Hid (hasS ss id = false) := Hd (by rw [uh HHa]; simp [heq])
     go_wp2_with fail
     refine bodyPost_ret (v := .tuple #[.int .i64 (i : Int), .bool false]) (by simp [results, Tryz.results98, go_sem]) rfl ?_
     rw [uh HPi, uh HH2]
     exact ⟨rfl, uh HB2⟩
   ·have HH2 : Hid (hasS ss id = false) := Hd (by rw [uh HHa]; simp [hin])
    obtain rfl : i = ss.length := by omega
    clear hb hlo hhi HR HP
    go_wp2_with fail
    refine bodyPost_ret (v := .tuple #[.int .i64 (ss.length : Int), .bool false]) (by simp [results, Tryz.results98, go_sem]) rfl ?_
    rw [uh HPi, uh HH2]
    exact ⟨rfl, uh HB⟩
theorem session_any (p : Nat) (v : Value) (ss : List Se) (id : Int) (w : World) (h : Sess w v ss) (hc : w.cell? ⟨p, 2, none⟩ = some v) (hs : ss.length ≤ 1048576) (hr : RiseS ss) :
  Calls Tryz.prog 74 #[.pointer (some ⟨p, 0, none⟩), .int .i64 id] w fun e w' => e = .returned (.tuple #[.int .i64 (posS ss id), .bool (hasS ss id)]) ∧ Below w.heap.size w w' := by
 have HB := Hd (bsearch_any v ss id w h hs hr)
 generalize posS ss id = q at *
 generalize hasS ss id = bo at *
 clear h hr
 go_enter Tryz.func74, Tryz.ntmps74
 go_wp2_with fail
 refine (uh HB).mono ?_
 rintro e w1 ⟨rfl, hb⟩
 have K := Hd hb
 clear hb HB
 go_wp2_with fail
 refine bodyPost_ret (v := .tuple #[.int .i64 (q : Int), .bool bo]) (by simp [results, Tryz.results74, go_sem]) rfl ?_
 exact ⟨rfl, uh K⟩
end Go.Proofs.YtnhhnjmjodmacaaGreatDoor
namespace Go.Proofs.YtnhhnjmjodmacaaGreatDoor
set_option maxRecDepth 100000
set_option maxHeartbeats 8000000
open Go.ChangeShapes Go.WideShapes Go.ChangeAt Go.RowKit
set_option linter.unusedVariables false
set_option linter.unusedSimpArgs false
theorem run_copy_rows {P : Program} (w : World) (dT sT ty elem : TypeId) (sz g o dLen dCap : Nat) (a : Addr) (sLen sCap : Nat) (cur : Array Value) (t : TypeId) (cs : List Value)
  (hu : P.underlying dT = some (.slice elem)) (hs : (P.info? elem).map (·.size) = some sz)
  (hg : w.heap[g]? = some (.cells cur t (0, 0))) (hn : cs.length = Nat.min sLen dLen * sz)
  (hsrc : ∀ j v, cs[j]? = some v → w.cell? (a.add j) = some v) (hfit : o + cs.length ≤ cur.size) (h1 : ∀ v ∈ cs, v.oneCell' = true) :
  (Builtin.copy_ #[dT, sT] ty #[.slice (some ⟨g, o, none⟩) dLen dCap, .slice (some a) sLen sCap]).run P w =
   .ok (goInt (Nat.min sLen dLen)) (w.setRow g (cur.toList.take o ++ cs ++ cur.toList.drop (o + cs.length)).toArray) := by
 have hl := run_loadCells_list (P := P) w a cs hsrc
 have hst := run_storeCells_at P g o t cs 0 cur w hg (by simpa using hfit) h1
 cases hq : P.info? elem with
 | none => simp [hq] at hs
 | some i =>
  have hi : i.size = sz := by simpa [hq] using hs
  rw [hn] at hl
  simp [Builtin.copy_, run_underlying hu, Builtin.lenOf, Builtin.firstCells, sizeOf, typeInfo, hq, hi, hl, hst]
theorem wp_copy_rows {P : Program} (w : World) {o : Oper} {a : Act} {K : Act → World → Prop} {Q : Exit → Act → World → Prop} (d s : Operand) (t t' : TypeId)
  (ho : o.op = .call { callee := .builtin .copy, args := #[d, s], argTypes := #[t, t'] }) (v u : Value) (hd : a.eval d = v) (hs : a.eval s = u) {v' : Value} {w' : World}
  (hr : (Builtin.copy_ #[t, t'] o.type #[v, u]).run P w = .ok v' w') (h : K (a.put o.dst v') w') : o.wp P a w K Q := by
 unfold Oper.wp execOp
 simp only [ho, resolve, invoke, builtin, Sem.run_bind, Sem.run_pure, Result.andThen_ok, List.map_toArray, List.map_cons, List.map_nil, hd, hs, hr]
 exact h
theorem wpList_copy_rows {P : Program} (w : World) {ops : Array Oper} {rest : List Oper} {o : Oper} {a : Act} {Q : Exit → Act → World → Prop} (hgd : o.guard = none) (d s : Operand) (t t' : TypeId)
  (ho : o.op = .call { callee := .builtin .copy, args := #[d, s], argTypes := #[t, t'] }) (v u : Value) (hd : a.eval d = v) (hs : a.eval s = u) {v' : Value} {w' : World}
  (hr : (Builtin.copy_ #[t, t'] o.type #[v, u]).run P w = .ok v' w') (h : wpList P ops Q rest (a.put o.dst v') w') : wpList P ops Q (o :: rest) a w :=
 wpList_plain hgd fun _ hK => wp_copy_rows w d s t t' ho v u hd hs hr (hK _ _ h)
theorem step_copy_rows {P : Program} {ops : Array Oper} {o : Oper} {a : Act} {w : World} {K : Act → World → Prop} {Q : Exit → Act → World → Prop} {E : Prop}
  (hg : o.guard = none) (d x : Operand) (dT sT : TypeId) (hop : o.op = Op.call { callee := Callee.builtin Builtin.copy, args := #[d, x], argTypes := #[dT, sT] })
  (v u : Value) (hd : a.eval d = v) (hx : a.eval x = u) {v' : Value} {w' : World} (hr : (Builtin.copy_ #[dT, sT] o.type #[v, u]).run P w = .ok v' w') (hK : K (a.put o.dst v') w') :
  if Region.wanted o (yielded ops a.tmps) = true then Oper.wp P o a w K Q else E := by
 have hw : Region.wanted o (yielded ops a.tmps) = true := by simp [Region.wanted, hg]
 rw [if_pos hw]
 unfold Oper.wp
 simp [execOp, hop, resolve, invoke, builtin, hd, hx, hr, Result.andThen]
 exact hK
end Go.Proofs.YtnhhnjmjodmacaaGreatDoor
