/- What the proof of the claim needs (joined by program): ApB ApT Cpy ApI ApU. -/
import Derived.Test.YtbchnheinnileaaGreatDoorQca01
import Derived.Test.YtbchnheinnileaaGreatDoorQca00
import Derived.Test.YtbchnheinnileaaGreatDoorQca08
import Derived.Laws.CopyRow
import Derived.Laws.AppendOwn
import Derived.Lib.Overlaps
import Derived.Lib.AppendZerosOnto
import Derived.Laws.Externs
import Derived.Deep.AppendLies
import Derived.Deep.RegionLaw
namespace Go.Proofs.YtbchnheinnileaaGreatDoor
set_option maxRecDepth 100000
set_option maxHeartbeats 8000000
open Go.ChangeShapes Go.WideShapes Go.ChangeAt Go.RowKit Go.Deep
set_option linter.unusedVariables false
set_option linter.unusedSimpArgs false
theorem wrapSe2 (n : Int) (h0 : -9223372036854775808 ≤ n) (h1 : n < 9223372036854775808) : IntKind.i64.wrap n = n := by
 simp only [IntKind.wrap, IntKind.bits, IntKind.signed]
 simp
 omega
def cmpV (a b : Int) : Int := if a < b then -1 else if b < a then 1 else 0
theorem isNaN_any (x : Int) (w : World) : Calls Tryz.prog 102 #[.int .i64 x] w fun e w' => e = .returned (.bool false) ∧ w' = w := by
 have b1 : (x == x) = true := by simp
 have b2 : (x != x) = false := by simp
 go_enter Tryz.func102, Tryz.ntmps102
 go_wp2_with fail
 go_ret
 exact ⟨rfl, rfl⟩
theorem compare_any (x y : Int) (w : World) : Calls Tryz.prog 88 #[.int .i64 x, .int .i64 y] w fun e w' => e = .returned (.int .i64 (cmpV x y)) ∧ w' = w := by
 have E : Hid (cmpV x y = if x < y then -1 else if y < x then 1 else 0) := Hd rfl
 generalize cmpV x y = r at *
 have H1 := Hd (fun wx => isNaN_any x wx)
 have H2 := Hd (fun wx => isNaN_any y wx)
 go_enter Tryz.func88, Tryz.ntmps88
 go_wp2_with fail
 refine (uh H1 _).mono ?_
 rintro e w' ⟨rfl, hw'⟩
 have hw2 := hw'.symm
 clear hw'
 subst hw2
 go_wp2_with fail
 refine (uh H2 _).mono ?_
 rintro e w' ⟨rfl, hw'⟩
 have hw2 := hw'.symm
 clear hw'
 subst hw2
 clear H1 H2
 by_cases h1 : x < y
 ·rw [if_pos h1] at E
  go_wp2_with fail
  go_ret
  exact ⟨ret_int (uh E).symm, rfl⟩
 ·rw [if_neg h1] at E
  by_cases h2 : y < x
  ·rw [if_pos h2] at E
   go_wp2_with fail
   go_ret
   exact ⟨ret_int (uh E).symm, rfl⟩
  ·rw [if_neg h2] at E
   go_wp2_with fail
   go_ret
   exact ⟨ret_int (uh E).symm, rfl⟩
theorem session1_any (s : Se) (id : Int) (w : World) : Calls Tryz.prog 87 #[.agg #[.int .i64 s.id, .int .i64 s.sq, .int .i64 s.kd, .int .i64 s.pl, .string s.vl], .int .i64 id] w fun e w' => e = .returned (.int .i64 (cmpV s.id id)) ∧ Below w.heap.size w w' := by
 obtain ⟨f0, f1, f2, f3, f4⟩ := s
 dsimp only
 have H1 := Hd (fun wx => compare_any f0 id wx)
 generalize cmpV f0 id = r at *
 go_enter Tryz.func87, Tryz.ntmps87
 go_wp2_with fail
 refine (uh H1 _).mono ?_
 rintro e w' ⟨rfl, hw'⟩
 have hw2 := hw'.symm
 clear hw'
 subst hw2
 go_wp2_with fail
 go_ret
 exact ⟨rfl, (Below.refl _ _).alloc (Nat.le_refl _) _⟩
theorem bsearch_any (v : Value) (ss : List Se) (id : Int) (w : World) (h : Sess w v ss) (hs : ss.length ≤ 1048576) (hr : RiseS ss) :
  Calls Tryz.prog 86 #[v, .int .i64 id, .func (.func 87) #[] #[]] w fun e w' => e = .returned (.tuple #[.int .i64 (posS ss id), .bool (hasS ss id)]) ∧ Below w.heap.size w w' := by
 have HP := Hd (pos_is (id := id) hr)
 have HR := Hd hr
 obtain ⟨a, cap, rfl, hn, hm, hc⟩ := h
 have HC := Hd hc
 clear hc hn hm hr
 go_enter Tryz.func86, Tryz.ntmps86
 go_wp2_with fail
 go_loopw [9, 10, 11] (fun vi vj _ wr => ∃ i j : Nat, i ≤ j ∧ j ≤ ss.length ∧ vi = .int .i64 i ∧ vj = .int .i64 j ∧ Hid (∀ k, k < i → (ss.getD k default).id < id) ∧ Hid (∀ k, j ≤ k → k < ss.length → id ≤ (ss.getD k default).id) ∧ Below w.heap.size w wr) (fun vi vj _ _ => (intOf vj).toNat - (intOf vi).toNat)
 case atStart => exact ⟨0, ss.length, Nat.zero_le _, Nat.le_refl _, rfl, rfl, Hd (fun k hk => by omega), Hd (fun k h1 h2 => by omega), Below.refl _ _⟩
 case round =>
  obtain ⟨i, j, hij, hj, rfl, rfl, hlo, hhi, hb⟩ := hrel
  by_cases hlt : i < j
  ·have q0 : (i : Int) < (j : Int) := by omega
   have q1 : IntKind.i64.wrap ((i : Int) + (j : Int)) = (i : Int) + (j : Int) := wrapSe2 _ (by omega) (by omega)
   obtain ⟨q, q2, hq1, hq2⟩ : ∃ q : Nat, ((i : Int) + (j : Int)) / 2 = (q : Int) ∧ i ≤ q ∧ q < j := ⟨(i + j) / 2, by omega, by omega, by omega⟩
   obtain ⟨b, off, rfl, hbl, hsrc⟩ : ∃ b off, a = some ⟨b, off, none⟩ ∧ b < w.heap.size ∧ ∀ i, i < ss.length → w.cell? ⟨b, off + i * 5, none⟩ = some (.int .i64 (ss.getD i default).id) ∧ w.cell? ⟨b, off + i * 5 + 1, none⟩ = some (.int .i64 (ss.getD i default).sq) ∧ w.cell? ⟨b, off + i * 5 + 2, none⟩ = some (.int .i64 (ss.getD i default).kd) ∧ w.cell? ⟨b, off + i * 5 + 3, none⟩ = some (.int .i64 (ss.getD i default).pl) ∧ w.cell? ⟨b, off + i * 5 + 4, none⟩ = some (.string (ss.getD i default).vl) := by
    rcases uh HC with h0 | h1
    ·omega
    ·exact h1
   obtain ⟨s0, s1, s2, s3, s4⟩ := hsrc q (by omega)
   have c0 := (hb.cell (p := ⟨b, off + q * 5, none⟩) hbl).trans s0
   have c1 := (hb.cell (p := ⟨b, off + q * 5 + 1, none⟩) hbl).trans s1
   have c2 := (hb.cell (p := ⟨b, off + q * 5 + 2, none⟩) hbl).trans s2
   have c3 := (hb.cell (p := ⟨b, off + q * 5 + 3, none⟩) hbl).trans s3
   have c4 := (hb.cell (p := ⟨b, off + q * 5 + 4, none⟩) hbl).trans s4
   have m0 : (0 : Int) ≤ (q : Int) := by omega
   have m1 : (q : Int) < (ss.length : Int) := by omega
   have HB := Hd hb
   have hbs := hb.size
   have HX := Hd (And.intro hq1 hq2)
   have HRS := HR
   clear hsrc s0 s1 s2 s3 s4 hb hq1 hq2
   have HT := Hd (fun wx => session1_any (ss.getD q default) id wx)
   obtain ⟨f, hf⟩ : ∃ f, f = ss.getD q default := ⟨_, rfl⟩
   have HFe := Hd hf
   rw [← hf] at c0 c1 c2 c3 c4 HT
   clear hf
   obtain ⟨f0, f1, f2, f3, f4⟩ := f
   dsimp only at c0 c1 c2 c3 c4 HT
   have HID := Hd (show (ss.getD q default).id = f0 by rw [← uh HFe])
   go_wp2_with fail
   refine (uh HT wr).mono ?_
   rintro e w2 ⟨rfl, hb2⟩
   have HB2 := Hd ((uh HB).trans (hb2.mono hbs))
   clear hb2 HB HT c0 c1 c2 c3 c4
   by_cases hlo2 : f0 < id
   ·have e1 : cmpV f0 id = -1 := by unfold cmpV; rw [if_pos hlo2]
    rw [e1]
    clear e1
    have q3 : IntKind.i64.wrap ((q : Int) + 1) = (q : Int) + 1 := wrapSe2 _ (by omega) (by omega)
    go_wp2_with fail
    obtain ⟨x1, x2⟩ := uh HX
    refine ⟨⟨q + 1, j, by omega, hj, by push_cast; rfl, rfl, Hd (fun k hk => ?_), hhi, uh HB2⟩, ?_⟩
    ·by_cases e : k = q
     ·rw [e, uh HID]; exact hlo2
     ·have := uh HRS k q (by omega) (by omega)
      rw [uh HID] at this
      omega
    ·simp [intOf]; omega
   ·have e1 : ¬ cmpV f0 id < 0 := by unfold cmpV; rw [if_neg hlo2]; split <;> omega
    generalize cmpV f0 id = cv at *
    go_wp2_with fail
    obtain ⟨x1, x2⟩ := uh HX
    refine ⟨⟨i, q, x1, by omega, rfl, rfl, hlo, Hd (fun k h1 h2 => ?_), uh HB2⟩, ?_⟩
    ·by_cases e : k = q
     ·rw [e, uh HID]; omega
     ·have := uh HRS q k (by omega) h2
      rw [uh HID] at this
      omega
    ·simp [intOf]; omega
  ·obtain rfl : i = j := by omega
   have HPi : Hid (posS ss id = i) := Hd ((uh HP).uniq ⟨hj, uh hlo, uh hhi⟩)
   have HHa : Hid (hasS ss id = decide (i < ss.length ∧ (ss.getD i default).id = id)) := Hd (by unfold hasS; rw [uh HPi])
   have HB := Hd hb
   have hbs := hb.size
   by_cases hin : i < ss.length
   ·obtain ⟨b, off, rfl, hbl, hsrc⟩ : ∃ b off, a = some ⟨b, off, none⟩ ∧ b < w.heap.size ∧ ∀ i, i < ss.length → w.cell? ⟨b, off + i * 5, none⟩ = some (.int .i64 (ss.getD i default).id) ∧ w.cell? ⟨b, off + i * 5 + 1, none⟩ = some (.int .i64 (ss.getD i default).sq) ∧ w.cell? ⟨b, off + i * 5 + 2, none⟩ = some (.int .i64 (ss.getD i default).kd) ∧ w.cell? ⟨b, off + i * 5 + 3, none⟩ = some (.int .i64 (ss.getD i default).pl) ∧ w.cell? ⟨b, off + i * 5 + 4, none⟩ = some (.string (ss.getD i default).vl) := by
     rcases uh HC with h0 | h1
     ·omega
     ·exact h1
    obtain ⟨s0, s1, s2, s3, s4⟩ := hsrc i hin
    have c0 := (hb.cell (p := ⟨b, off + i * 5, none⟩) hbl).trans s0
    have c1 := (hb.cell (p := ⟨b, off + i * 5 + 1, none⟩) hbl).trans s1
    have c2 := (hb.cell (p := ⟨b, off + i * 5 + 2, none⟩) hbl).trans s2
    have c3 := (hb.cell (p := ⟨b, off + i * 5 + 3, none⟩) hbl).trans s3
    have c4 := (hb.cell (p := ⟨b, off + i * 5 + 4, none⟩) hbl).trans s4
    have m0 : (0 : Int) ≤ (i : Int) := by omega
    have m1 : (i : Int) < (ss.length : Int) := by omega
    have HT := Hd (fun wx => session1_any (ss.getD i default) id wx)
    clear hsrc s0 s1 s2 s3 s4 hb hlo hhi HR HP
    generalize ss.getD i default = f at *
    obtain ⟨f0, f1, f2, f3, f4⟩ := f
    dsimp only at c0 c1 c2 c3 c4 HT HHa
    go_wp2_with fail
    refine (uh HT wr).mono ?_
    rintro e w2 ⟨rfl, hb2⟩
    have HB2 := Hd ((uh HB).trans (hb2.mono hbs))
    clear hb2 HB HT c0 c1 c2 c3 c4
    by_cases heq : f0 = id
    ·have e1 : cmpV f0 id = 0 := by unfold cmpV; rw [if_neg (by omega), if_neg (by omega)]
     rw [e1]
     clear e1
     have HH2 : Hid (hasS ss id = true) := Hd (by rw [uh HHa]; simp [hin, heq])
     go_wp2_with fail
     refine bodyPost_ret (v := .tuple #[.int .i64 (i : Int), .bool true]) (by simp [results, Tryz.results86, go_sem]) rfl ?_
     rw [uh HPi, uh HH2]
     exact ⟨rfl, uh HB2⟩
    ·have e1 : (cmpV f0 id == 0) = false := by rw [beq_eq_false_iff_ne]; unfold cmpV; split <;> (try split) <;> omega
     generalize cmpV f0 id = cv at *
     have HH2 : Hid (hasS ss id = false) := Hd (by rw [uh HHa]; simp [heq])
     go_wp2_with fail
     refine bodyPost_ret (v := .tuple #[.int .i64 (i : Int), .bool false]) (by simp [results, Tryz.results86, go_sem]) rfl ?_
     rw [uh HPi, uh HH2]
     exact ⟨rfl, uh HB2⟩
   ·have HH2 : Hid (hasS ss id = false) := Hd (by rw [uh HHa]; simp [hin])
    obtain rfl : i = ss.length := by omega
    clear hb hlo hhi HR HP
    go_wp2_with fail
    refine bodyPost_ret (v := .tuple #[.int .i64 (ss.length : Int), .bool false]) (by simp [results, Tryz.results86, go_sem]) rfl ?_
    rw [uh HPi, uh HH2]
    exact ⟨rfl, uh HB⟩
theorem session_any (p : Nat) (v : Value) (ss : List Se) (id : Int) (w : World) (h : Sess w v ss) (hc : w.cell? ⟨p, 2, none⟩ = some v) (hs : ss.length ≤ 1048576) (hr : RiseS ss) :
  Calls Tryz.prog 68 #[.pointer (some ⟨p, 0, none⟩), .int .i64 id] w fun e w' => e = .returned (.tuple #[.int .i64 (posS ss id), .bool (hasS ss id)]) ∧ Below w.heap.size w w' := by
 have HB := Hd (bsearch_any v ss id w h hs hr)
 generalize posS ss id = q at *
 generalize hasS ss id = bo at *
 clear h hr
 go_enter Tryz.func68, Tryz.ntmps68
 go_wp2_with fail
 refine (uh HB).mono ?_
 rintro e w1 ⟨rfl, hb⟩
 have K := Hd hb
 clear hb HB
 go_wp2_with fail
 refine bodyPost_ret (v := .tuple #[.int .i64 (q : Int), .bool bo]) (by simp [results, Tryz.results68, go_sem]) rfl ?_
 exact ⟨rfl, uh K⟩
def seI (ss : List Se) (id : Int) : Int := if hasS ss id then (posS ss id : Int) else -1
theorem seI_at {ss : List Se} {id : Int} (h : RiseS ss) (k : Nat) (hk : k < ss.length) (he : (ss.getD k default).id = id) : seI ss id = (k : Int) := by
 have hp : IsPos ss id k := ⟨by omega, fun i hi => by rw [← he]; exact h i k hi hk, fun i h1 h2 => by
  by_cases e : k = i
  ·rw [← e, he]; exact Int.le_refl _
  ·have := h k i (by omega) h2; omega⟩
 have := (pos_is (id := id) h).uniq hp
 unfold seI
 rw [if_pos (has_iff.2 ⟨by rw [this]; exact hk, by rw [this]; exact he⟩), this]
theorem seI_no {ss : List Se} {id : Int} (h : ∀ i, i < ss.length → (ss.getD i default).id ≠ id) : seI ss id = -1 := by
 unfold seI
 rw [if_neg (fun e => by have := has_iff.1 e; exact h _ this.1 this.2)]
theorem l09Session_any (v : Value) (ss : List Se) (id : Int) (w : World) (h : Sess w v ss) (hs : ss.length ≤ 1048576) (hr : RiseS ss) :
  Calls Tryz.prog 64 #[v, .int .i64 id] w fun e w' => e = .returned (.int .i64 (seI ss id)) ∧ w' = w := by
 have HA := Hd (fun k hk he => seI_at (id := id) hr k hk he)
 have HN := Hd (seI_no (ss := ss) (id := id))
 obtain ⟨a, cap, rfl, hn, hm, hc⟩ := h
 have HC := Hd hc
 generalize seI ss id = r at *
 clear hc hn hm hr
 go_enter Tryz.func64, Tryz.ntmps64
 go_wp2_with fail
 go_loopw [5] (fun i wr => ∃ k : Nat, k ≤ ss.length ∧ i = .int .i64 k ∧ Hid (∀ i, i < k → (ss.getD i default).id ≠ id) ∧ wr = w) (fun i _ => ss.length - (intOf i).toNat)
 case atStart => exact ⟨0, Nat.zero_le _, rfl, Hd (fun i hi => by omega), rfl⟩
 case round =>
  obtain ⟨k, hk, rfl, hno, hwr⟩ := hrel
  have hw2 := hwr.symm
  clear hwr
  subst hw2
  by_cases hlt : k < ss.length
  ·obtain ⟨b, off, rfl, hbl, hsrc⟩ : ∃ b off, a = some ⟨b, off, none⟩ ∧ b < w.heap.size ∧ ∀ i, i < ss.length → w.cell? ⟨b, off + i * 5, none⟩ = some (.int .i64 (ss.getD i default).id) := by
    rcases uh HC with h0 | ⟨b, off, e, hb, h1⟩
    ·omega
    ·exact ⟨b, off, e, hb, fun i hi => (h1 i hi).1⟩
   have c0 := hsrc k hlt
   have m0 : (0 : Int) ≤ (k : Int) := by omega
   have m1 : (k : Int) < (ss.length : Int) := by omega
   have m2 : IntKind.i64.wrap ((k : Int) + 1) = (k : Int) + 1 := wrapSe2 _ (by omega) (by omega)
   have HK := Hd (uh HA k hlt)
   clear hsrc HA
   obtain ⟨f, hf⟩ : ∃ f, f = (ss.getD k default).id := ⟨_, rfl⟩
   rw [← hf] at c0 HK
   have HF := Hd hf
   clear hf
   by_cases he : f = id
   ·have b1 : (f == id) = true := by rw [he]; simp
    have E := Hd (uh HK he)
    clear he
    go_wp2_with fail
    go_ret
    exact ⟨ret_int (uh E).symm, rfl⟩
   ·have b1 : (f == id) = false := by rw [beq_eq_false_iff_ne]; exact he
    go_wp2_with fail
    refine ⟨⟨k + 1, by omega, by push_cast; rfl, Hd (fun i hi => ?_), by first | trivial | rfl⟩, ?_⟩
    ·by_cases e : i = k
     ·rw [e, ← uh HF]; exact he
     ·exact uh hno i (by omega)
    ·simp [intOf]; omega
  ·obtain rfl : k = ss.length := by omega
   have E := Hd (uh HN (uh hno))
   go_wp2_with fail
   go_ret
   exact ⟨ret_int (uh E).symm, rfl⟩
end Go.Proofs.YtbchnheinnileaaGreatDoor
namespace Go.Proofs.YtbchnheinnileaaGreatDoor
set_option maxRecDepth 100000
set_option maxHeartbeats 8000000
open Go.ChangeShapes Go.WideShapes Go.ChangeAt Go.RowKit
set_option linter.unusedVariables false
set_option linter.unusedSimpArgs false
theorem run_copy_rows {P : Program} (w : World) (dT sT ty elem : TypeId) (sz g o dLen dCap : Nat) (a : Addr) (sLen sCap : Nat) (cur : Array Value) (t : TypeId) (cs : List Value)
  (hu : P.underlying dT = some (.slice elem)) (hs : (P.info? elem).map (·.size) = some sz)
  (hg : w.heap[g]? = some (.cells cur t (0, 0))) (hn : cs.length = Nat.min sLen dLen * sz)
  (hsrc : ∀ j v, cs[j]? = some v → w.cell? (a.add j) = some v) (hfit : o + cs.length ≤ cur.size) (h1 : ∀ v ∈ cs, v.oneCell' = true) :
  (Builtin.copy_ #[dT, sT] ty #[.slice (some ⟨g, o, none⟩) dLen dCap, .slice (some a) sLen sCap]).run P w =
   .ok (goInt (Nat.min sLen dLen)) (w.setRow g (cur.toList.take o ++ cs ++ cur.toList.drop (o + cs.length)).toArray) := by
 have hl := run_loadCells_list (P := P) w a cs hsrc
 have hst := run_storeCells_at P g o t cs 0 cur w hg (by simpa using hfit) h1
 cases hq : P.info? elem with
 | none => simp [hq] at hs
 | some i =>
  have hi : i.size = sz := by simpa [hq] using hs
  rw [hn] at hl
  simp [Builtin.copy_, run_underlying hu, Builtin.lenOf, Builtin.firstCells, sizeOf, typeInfo, hq, hi, hl, hst]
theorem wp_copy_rows {P : Program} (w : World) {o : Oper} {a : Act} {K : Act → World → Prop} {Q : Exit → Act → World → Prop} (d s : Operand) (t t' : TypeId)
  (ho : o.op = .call { callee := .builtin .copy, args := #[d, s], argTypes := #[t, t'] }) (v u : Value) (hd : a.eval d = v) (hs : a.eval s = u) {v' : Value} {w' : World}
  (hr : (Builtin.copy_ #[t, t'] o.type #[v, u]).run P w = .ok v' w') (h : K (a.put o.dst v') w') : o.wp P a w K Q := by
 unfold Oper.wp execOp
 simp only [ho, resolve, invoke, builtin, Sem.run_bind, Sem.run_pure, Result.andThen_ok, List.map_toArray, List.map_cons, List.map_nil, hd, hs, hr]
 exact h
theorem wpList_copy_rows {P : Program} (w : World) {ops : Array Oper} {rest : List Oper} {o : Oper} {a : Act} {Q : Exit → Act → World → Prop} (hgd : o.guard = none) (d s : Operand) (t t' : TypeId)
  (ho : o.op = .call { callee := .builtin .copy, args := #[d, s], argTypes := #[t, t'] }) (v u : Value) (hd : a.eval d = v) (hs : a.eval s = u) {v' : Value} {w' : World}
  (hr : (Builtin.copy_ #[t, t'] o.type #[v, u]).run P w = .ok v' w') (h : wpList P ops Q rest (a.put o.dst v') w') : wpList P ops Q (o :: rest) a w :=
 wpList_plain hgd fun _ hK => wp_copy_rows w d s t t' ho v u hd hs hr (hK _ _ h)
theorem step_copy_rows {P : Program} {ops : Array Oper} {o : Oper} {a : Act} {w : World} {K : Act → World → Prop} {Q : Exit → Act → World → Prop} {E : Prop}
  (hg : o.guard = none) (d x : Operand) (dT sT : TypeId) (hop : o.op = Op.call { callee := Callee.builtin Builtin.copy, args := #[d, x], argTypes := #[dT, sT] })
  (v u : Value) (hd : a.eval d = v) (hx : a.eval x = u) {v' : Value} {w' : World} (hr : (Builtin.copy_ #[dT, sT] o.type #[v, u]).run P w = .ok v' w') (hK : K (a.put o.dst v') w') :
  if Region.wanted o (yielded ops a.tmps) = true then Oper.wp P o a w K Q else E := by
 have hw : Region.wanted o (yielded ops a.tmps) = true := by simp [Region.wanted, hg]
 rw [if_pos hw]
 unfold Oper.wp
 simp [execOp, hop, resolve, invoke, builtin, hd, hx, hr, Result.andThen]
 exact hK
end Go.Proofs.YtbchnheinnileaaGreatDoor
namespace Go.Proofs.YtbchnheinnileaaGreatDoor
set_option maxRecDepth 100000
set_option maxHeartbeats 8000000
open Go.ChangeShapes Go.WideShapes Go.ChangeAt Go.RowKit Go.Deep
set_option linter.unusedVariables false
set_option linter.unusedSimpArgs false
theorem sesC_take : ∀ (ss : List Se) (q : Nat), sesC (ss.take q) = (sesC ss).take (q * 5)
 | [], q => by simp [sesC]
 | s :: r, 0 => by simp [sesC]
 | s :: r, q + 1 => by
  have e : ∀ (s : Se) (r : List Se), sesC (s :: r) = seC s ++ sesC r := fun _ _ => by simp [sesC]
  have hl : (seC s).length = 5 := rfl
  rw [List.take_succ_cons, e, e, sesC_take r q, show (q + 1) * 5 = (seC s).length + q * 5 by rw [hl]; omega, List.take_length_add_append]
theorem sesC_drop : ∀ (ss : List Se) (q : Nat), sesC (ss.drop q) = (sesC ss).drop (q * 5)
 | [], q => by simp [sesC]
 | s :: r, 0 => by simp [sesC]
 | s :: r, q + 1 => by
  have e : ∀ (s : Se) (r : List Se), sesC (s :: r) = seC s ++ sesC r := fun _ _ => by simp [sesC]
  have hl : (seC s).length = 5 := rfl
  rw [List.drop_succ_cons, e, sesC_drop r q, show (q + 1) * 5 = (seC s).length + q * 5 by rw [hl]; omega, List.drop_length_add_append]
theorem sesC_ins (ss : List Se) (q : Nat) (s : Se) : sesC (insS ss q s) = (sesC ss).take (q * 5) ++ (seC s ++ (sesC ss).drop (q * 5)) := by
 unfold insS
 rw [sesC_app, ← sesC_take, ← sesC_drop]
 simp [sesC]
theorem sesC_del (ss : List Se) (q : Nat) : sesC (delS ss q) = (sesC ss).take (q * 5) ++ (sesC ss).drop ((q + 1) * 5) := by
 unfold delS
 rw [sesC_app, ← sesC_take, ← sesC_drop]
theorem sesC_one (ss : List Se) : ∀ v ∈ sesC ss, v.oneCell' = true := by
 intro v hv
 simp only [sesC, List.mem_flatMap] at hv
 obtain ⟨s, _, hs⟩ := hv
 simp only [seC, List.mem_cons, List.not_mem_nil, or_false] at hs
 rcases hs with rfl | rfl | rfl | rfl | rfl <;> rfl
theorem seC_one (s : Se) : ∀ v ∈ seC s, v.oneCell' = true := by
 intro v hs
 simp only [seC, List.mem_cons, List.not_mem_nil, or_false] at hs
 rcases hs with rfl | rfl | rfl | rfl | rfl <;> rfl
theorem sizeSe_ (w : World) : (Go.sizeOf 103).run Tryz.prog w = .ok 5 w := by kernel_rfl
def InsR (B : Nat) (ob : Option Nat) (l : List Se) (w : World) (e : Ending) (w' : World) : Prop :=
 ∃ v', e = .returned v' ∧ OwnSe B w' v' l ∧ (v'.ownBlock = ob ∨ ∃ g, v'.ownBlock = some g ∧ w.heap.size ≤ g) ∧ Touch (fun k => ob = some k) w w'
theorem row_two (L S C : List Value) (a : Nat) (h : a + S.length ≤ L.length) (D : List Value) :
  ((((L.take (a + S.length) ++ C ++ D).take a) ++ S) ++ (L.take (a + S.length) ++ C ++ D).drop (a + S.length)).take (a + S.length + C.length) = L.take a ++ (S ++ C) := by
 have hl : (L.take (a + S.length)).length = a + S.length := by rw [List.length_take]; omega
 have e1 : (L.take (a + S.length) ++ C ++ D).take a = L.take a := by
  rw [List.append_assoc, List.take_append_of_le_length (by omega), List.take_take, show min a (a + S.length) = a by omega]
 have e2 : (L.take (a + S.length) ++ C ++ D).drop (a + S.length) = C ++ D := by
  rw [List.append_assoc, List.drop_left' hl]
 have e3 : (L.take a ++ (S ++ C)).length = a + S.length + C.length := by
  simp only [List.length_append, List.length_take]; omega
 rw [e1, e2, List.append_assoc, ← List.append_assoc S, ← List.append_assoc, List.take_left' e3]
theorem row_three (L S C : List Value) (a : Nat) (h : a + S.length ≤ L.length) (D E : List Value) :
  (((L.take a ++ S ++ D).take (a + S.length) ++ C) ++ E).take (a + S.length + C.length) = L.take a ++ (S ++ C) := by
 have hl : (L.take a ++ S).length = a + S.length := by simp only [List.length_append, List.length_take]; omega
 have e3 : (L.take a ++ S ++ C).length = a + S.length + C.length := by simp only [List.length_append, List.length_take]; omega
 rw [List.take_left' hl, List.take_left' e3, List.append_assoc]
theorem cur_cells {cur : Array Value} {xs : List Value} {m : Nat} (h : cur.toList.take m = xs) (j : Nat) (hj : j < m) : cur[j]? = xs[j]? := by
 rw [← h, List.getElem?_take_of_lt hj, Array.getElem?_toList]
theorem insert_end (B : Nat) (sv : Value) (ss : List Se) (s : Se) (vb : Nat) (w : World) (hO : OwnSe B w sv ss) (hX : w.heap[vb]? = some (.cells #[.int .i64 s.id, .int .i64 s.sq, .int .i64 s.kd, .int .i64 s.pl, .string s.vl] 103 (0, 0))) (hB : B ≤ w.heap.size) (hs : ss.length ≤ 1000) :
  Calls Tryz.prog 89 #[sv, .int .i64 ss.length, .slice (some ⟨vb, 0, none⟩) 1 1] w fun e w' => InsR B sv.ownBlock (insS ss ss.length s) w e w' := by
 obtain ⟨i0, hi, hz0, hz1, hz2⟩ := info_parts infoSe
 have hvl := World.news_of_block (cs := #[Value.int .i64 s.id, .int .i64 s.sq, .int .i64 s.kd, .int .i64 s.pl, .string s.vl]) hX
 have hshape : ∃ a c, sv = .slice a ss.length c ∧ ss.length ≤ c ∧ c ≤ maxLen := by
  rcases hO.2 with ⟨rfl, h0⟩ | ⟨g, cap, cur, rfl, _, _, h3, h4, _⟩
  ·exact ⟨none, 0, by rw [h0], by omega, by unfold maxLen; omega⟩
  ·exact ⟨_, _, rfl, h3, h4⟩
 obtain ⟨a, c, rfl, hc1, hc2⟩ := hshape
 unfold maxLen at hc2
 have HL := Hd (sesC_ins ss ss.length s)
 have HO := Hd hO
 clear hO
 obtain ⟨ob, hob⟩ : ∃ ob, ob = (Value.slice a ss.length c).ownBlock := ⟨_, rfl⟩
 rw [← hob]
 have HOB := Hd hob
 clear hob
 have b1 : ((ss.length : Int) == (ss.length : Int)) = true := by simp
 go_enter Tryz.func89, Tryz.ntmps89
 go_wp2_with (at_builtin; refine wpList_append_lies _ rfl _ _ 31 rfl B 103 i0 _ 5 48 Tryz.underlying31 hi hz0 hz1 hz2 rfl (by omega) (.slice a ss.length c) ss.length _ rfl (uh HO) ⟨vb, 0, none⟩ 1 1 [_, _, _, _, _] rfl rfl hvl (by simp [Value.oneCell']) (by omega) (by unfold maxLen; omega) (by omega) hB _ rfl ?_; intro g5 cap5 w5 hown5 hgrow5 hat5 hlt5; have R5 := Hd (And.intro hown5 (And.intro hgrow5 hat5)); clear hown5 hgrow5 hat5 hlt5)
 all_goals
  refine bodyPost_ret (v := .slice (some ⟨g5, 0, none⟩) (ss.length + 1) cap5) (by simp [results, Tryz.results89, go_sem]) rfl ?_
  obtain ⟨hown5, hgrow5, hat5⟩ := uh R5
  rw [← uh HOB] at hgrow5 hat5
  refine ⟨_, rfl, ?_, ?_, (Touch.refl _ w).grown hgrow5 (fun k e _ => e)⟩
  ·unfold OwnSe
   rw [insS_len _ _ _ (Nat.le_refl _), uh HL]
   have e1 : (sesC ss).take (ss.length * 5) = sesC ss := List.take_of_length_le (Nat.le_of_eq (sesC_len ss))
   have e2 : (sesC ss).drop (ss.length * 5) = [] := List.drop_eq_nil_of_le (Nat.le_of_eq (sesC_len ss))
   rw [e1, e2, List.append_nil]
   exact hown5
  ·rcases hat5 with h | h
   ·exact .inl h.symm
   ·exact .inr ⟨g5, rfl, by omega⟩
theorem own_cur {B g cap n : Nat} {w : World} {xs : List Value} (hO : w.ownsRow B 103 5 (.slice (some ⟨g, 0, none⟩) n cap) n xs) : ∃ cur, w.heap[g]? = some (.cells cur 103 (0, 0)) ∧ cap ≤ maxLen ∧ n ≤ cap ∧ cur.size = cap * 5 ∧ cur.toList.take (n * 5) = xs ∧ B ≤ g := by
 rcases hO.2 with ⟨h, _⟩ | ⟨g', cap', cur, e, h1, h2, h3, h4, h5, h6⟩
 ·cases h
 ·simp only [Value.slice.injEq, Option.some.injEq, Addr.mk.injEq, and_true, true_and] at e
  obtain ⟨rfl, rfl⟩ := e
  exact ⟨cur, h2, h4, h3, h5, h6, h1⟩
theorem insert_room (B g cap : Nat) (ss : List Se) (q : Nat) (s : Se) (vb : Nat) (w : World) (hO : OwnSe B w (.slice (some ⟨g, 0, none⟩) ss.length cap) ss) (hX : w.heap[vb]? = some (.cells #[.int .i64 s.id, .int .i64 s.sq, .int .i64 s.kd, .int .i64 s.pl, .string s.vl] 103 (0, 0))) (hB : B ≤ w.heap.size) (hs : ss.length ≤ 1000) (hq : q < ss.length) (hroom : ss.length + 1 ≤ cap) (hvb : vb ≠ g) :
  Calls Tryz.prog 89 #[.slice (some ⟨g, 0, none⟩) ss.length cap, .int .i64 q, .slice (some ⟨vb, 0, none⟩) 1 1] w fun e w' => InsR B (some g) (insS ss q s) w e w' := by
 obtain ⟨i0, hi, hz0, hz1, hz2⟩ := info_parts infoSe
 have hsz : (Tryz.prog.info? 103).map (·.size) = some 5 := by rw [hi]; simp [hz1]
 have hlen := sesC_len ss
 have HL := Hd (sesC_ins ss q s)
 obtain ⟨cur, hg, hcm, _, hcs, htk, hBg⟩ := own_cur hO
 clear hO
 unfold maxLen at hcm
 have hov : ∀ lb cb, (callFunc 103 #[.slice (some ⟨vb, 0, none⟩) 1 1, .slice (some ⟨g, (q + 1) * 5, none⟩) lb cb]).run Tryz.prog w = .ok (.value (.bool false)) w := fun lb cb => by
  rw [run_callFunc_extern Tryz.func103 (by kernel_rfl) (by kernel_rfl) (by kernel_rfl) (e := Extern.SlicesOverlaps.overlaps #[31, 31] #[4]) (by kernel_rfl),
   Lib.run_overlaps_apart w 31 4 103 Tryz.underlying31 5 sizeSe_ ⟨vb, 0, none⟩ ⟨g, (q + 1) * 5, none⟩ 1 1 lb cb hvb 103 103 5 (cap * 5) (by simp [World.shape?, hX]) (by simp [World.shape?, hg, hcs]) (by omega) (by simp [World.frozen?, hX]) (by simp [World.frozen?, hX])]
  rfl
 have hcl : ((sesC ss).drop (q * 5)).length = (ss.length - q) * 5 := by rw [List.length_drop, hlen]; omega
 have hmin : Nat.min (ss.length + 1 - q) (ss.length - q) = ss.length - q := by simp only [Nat.min_def]; split <;> omega
 have hmin2 : Nat.min 1 (ss.length + 1 - q) = 1 := by simp only [Nat.min_def]; split <;> omega
 obtain ⟨R1, hR1⟩ : ∃ R1 : List Value, R1 = cur.toList.take ((q + 1) * 5) ++ (sesC ss).drop (q * 5) ++ cur.toList.drop ((q + 1) * 5 + ((sesC ss).drop (q * 5)).length) := ⟨_, rfl⟩
 have hcp1 : ∀ ty dc sc, (Builtin.copy_ #[31, 31] ty #[.slice (some ⟨g, (q + 1) * 5, none⟩) (ss.length - q) dc, .slice (some ⟨g, q * 5, none⟩) (ss.length + 1 - q) sc]).run Tryz.prog w.drew = .ok (goInt ((ss.length - q : Nat) : Int)) (w.drew.setRow g R1.toArray) := fun ty dc sc => by
  have h := run_copy_rows (P := Tryz.prog) w.drew 31 31 ty 103 5 g ((q + 1) * 5) (ss.length - q) dc ⟨g, q * 5, none⟩ (ss.length + 1 - q) sc cur 103 ((sesC ss).drop (q * 5)) Tryz.underlying31 hsz hg (by rw [hcl, hmin]) (fun j v hj => by
   have hjl : j < (ss.length - q) * 5 := by rw [← hcl]; exact (List.getElem?_eq_some_iff.1 hj).1
   rw [List.getElem?_drop] at hj
   rw [Addr.add_lit]
   show w.cell? _ = _
   simp only [World.cell?, hg]
   rw [cur_cells htk _ (by omega)]
   exact hj) (by rw [hcl, hcs]; omega) (fun v hv => sesC_one ss v (List.mem_of_mem_drop hv))
  rw [hmin, ← hR1] at h
  exact h
 have hW1 : (w.drew.setRow g R1.toArray).heap[g]? = some (.cells R1.toArray 103 (0, 0)) := setRow_heap w.drew g cur R1.toArray 103 (0, 0) hg
 have hX1 : (w.drew.setRow g R1.toArray).heap[vb]? = some (.cells #[.int .i64 s.id, .int .i64 s.sq, .int .i64 s.kd, .int .i64 s.pl, .string s.vl] 103 (0, 0)) := (setRow_other w.drew g vb R1.toArray hvb).trans hX
 have hRl : R1.length = cap * 5 := by
  rw [hR1]
  simp only [List.length_append, List.length_take, List.length_drop, Array.length_toList, hcs, hlen]
  omega
 obtain ⟨R2, hR2⟩ : ∃ R2 : List Value, R2 = R1.take (q * 5) ++ seC s ++ R1.drop (q * 5 + 5) := ⟨_, rfl⟩
 have hcp2 : ∀ ty dc, (Builtin.copy_ #[31, 31] ty #[.slice (some ⟨g, q * 5, none⟩) (ss.length + 1 - q) dc, .slice (some ⟨vb, 0, none⟩) 1 1]).run Tryz.prog (w.drew.setRow g R1.toArray) = .ok (goInt 1) ((w.drew.setRow g R1.toArray).setRow g R2.toArray) := fun ty dc => by
  have h := run_copy_rows (P := Tryz.prog) (w.drew.setRow g R1.toArray) 31 31 ty 103 5 g (q * 5) (ss.length + 1 - q) dc ⟨vb, 0, none⟩ 1 1 R1.toArray 103 (seC s) Tryz.underlying31 hsz hW1 (by rw [hmin2]; rfl) (World.news_of_block hX1) (by show q * 5 + 5 ≤ R1.toArray.size; rw [List.size_toArray, hRl]; omega) (seC_one s)
  rw [hmin2] at h
  have e5 : (seC s).length = 5 := rfl
  have h9 : R2 = R1.toArray.toList.take (q * 5) ++ seC s ++ R1.toArray.toList.drop (q * 5 + (seC s).length) := by rw [hR2, e5]
  rw [← h9] at h
  exact h
 have q1 : ¬ ((q : Int) = (ss.length : Int)) := by omega
 have q2 : ¬ ((cap : Int) < (ss.length : Int) + 1) := by omega
 have q3 : IntKind.i64.wrap ((q : Int) + 1) = (q : Int) + 1 := wrapSe _ (by omega) (by omega)
 have q4 : IntKind.i64.wrap ((ss.length : Int) + 1) = (ss.length : Int) + 1 := wrapSe _ (by omega) (by omega)
 have q5 : ((q : Int) + 1).toNat = q + 1 := by omega
 have q6 : ((ss.length : Int) + 1).toNat = ss.length + 1 := by omega
 have q7 : ¬ (cap = q + 1) := by omega
 have q9 : (0 : Int) ≤ (q : Int) + 1 := by omega
 have q10 : q ≤ ss.length := by omega
 have q11 : (q : Int) ≤ (ss.length : Int) + 1 := by omega
 have q8 : ¬ (cap = q) := by omega
 have HF := Hd (And.intro hR1 (And.intro hRl (And.intro hcs (And.intro htk (And.intro hcm (And.intro hBg hR2))))))
 have HW := Hd (And.intro hW1 hg)
 clear hR1 hRl hcs htk hcm hBg hW1 hX1 hg hX hcl hmin hmin2 hlen hR2
 go_enter Tryz.func89, Tryz.ntmps89
 go_wp2_with (simp only [hov])
 clear hov
 go_region_law (refine step_copy_rows rfl _ _ 31 31 rfl _ _ (by simp [Act.eval, Act.put]) (by simp [Act.eval, Act.put]) (hcp1 _ _ _) ?_)
 go_wp2_with (at_builtin; refine wpList_copy_rows _ rfl _ _ 31 31 rfl _ _ rfl rfl (hcp2 _ _) ?_)
 refine bodyPost_ret (v := .slice (some ⟨g, 0, none⟩) (ss.length + 1) cap) (by simp [results, Tryz.results89, go_sem]) rfl ?_
 obtain ⟨hR1, hRl, hcs, htk, hcm, hBg, hR2⟩ := uh HF
 obtain ⟨hW1, hg⟩ := uh HW
 have hlen := sesC_len ss
 refine ⟨_, rfl, ⟨?_, .inr ⟨g, cap, R2.toArray, ?_, hBg, setRow_heap (w.drew.setRow g R1.toArray) g R1.toArray _ 103 (0, 0) hW1, ?_, by unfold maxLen; omega, ?_, ?_⟩⟩, .inl rfl, ⟨rfl, rfl, rfl, by simp [World.setRow], fun k hk hn => ?_⟩⟩
 ·rw [sesC_len]
 ·rw [insS_len _ _ _ (by omega)]
 ·rw [insS_len _ _ _ (by omega)]; exact hroom
 ·rw [List.size_toArray, hR2]
  simp only [List.length_append, List.length_take, List.length_drop, hRl]
  have : (seC s).length = 5 := rfl
  omega
 ·rw [insS_len _ _ _ (by omega), uh HL]
  have h5 : (seC s).length = 5 := rfl
  have hrt := row_two cur.toList (seC s) ((sesC ss).drop (q * 5)) (q * 5) (by have := cur.length_toList; omega) (cur.toList.drop ((q + 1) * 5 + ((sesC ss).drop (q * 5)).length))
  have htk2 : cur.toList.take (q * 5) = (sesC ss).take (q * 5) := by rw [← htk, List.take_take, show min (q * 5) (ss.length * 5) = q * 5 by omega]
  rw [h5, show q * 5 + 5 = (q + 1) * 5 by omega, ← hR1, htk2] at hrt
  rw [hR2, show q * 5 + 5 = (q + 1) * 5 by omega, show (ss.length + 1) * 5 = (q + 1) * 5 + ((sesC ss).drop (q * 5)).length by rw [List.length_drop, hlen]; omega]
  simpa using hrt
 ·have hne : k ≠ g := fun e => hn (by rw [e])
  rw [setRow_other _ _ _ _ hne, setRow_other _ _ _ _ hne]
  rfl
theorem insert_grow (B g cap : Nat) (ss : List Se) (q : Nat) (s : Se) (vb : Nat) (w : World) (hO : OwnSe B w (.slice (some ⟨g, 0, none⟩) ss.length cap) ss) (hX : w.heap[vb]? = some (.cells #[.int .i64 s.id, .int .i64 s.sq, .int .i64 s.kd, .int .i64 s.pl, .string s.vl] 103 (0, 0))) (hB : B ≤ w.heap.size) (hs : ss.length ≤ 1000) (hq : q < ss.length) (hroom : cap < ss.length + 1) :
  Calls Tryz.prog 89 #[.slice (some ⟨g, 0, none⟩) ss.length cap, .int .i64 q, .slice (some ⟨vb, 0, none⟩) 1 1] w fun e w' => InsR B (some g) (insS ss q s) w e w' := by
 obtain ⟨i0, hi, hz0, hz1, hz2⟩ := info_parts infoSe
 have hsz : (Tryz.prog.info? 103).map (·.size) = some 5 := by rw [hi]; simp [hz1]
 have hlen := sesC_len ss
 have HL := Hd (sesC_ins ss q s)
 obtain ⟨cur, hg, hcm, hnc, hcs, htk, hBg⟩ := own_cur hO
 clear hO
 unfold maxLen at hcm
 obtain rfl : cap = ss.length := by omega
 have hgl : g < w.heap.size := (Array.getElem?_eq_some_iff.1 hg).1
 have hvl : vb < w.heap.size := (Array.getElem?_eq_some_iff.1 hX).1
 have hcl : ((sesC ss).drop (q * 5)).length = (ss.length - q) * 5 := by rw [List.length_drop, hlen]; omega
 have hik : q + (ss.length + 1 - q) = ss.length + 1 := by omega
 have hkk : (ss.length : Int) + 1 - (q : Int) = ((ss.length + 1 - q : Nat) : Int) := by omega
 have hold : (Builtin.firstCells i0.size q (.slice (some ⟨g, 0, none⟩) q ss.length)).run Tryz.prog w.drew = .ok ((sesC ss).take (q * 5)).toArray w.drew := by
  rw [hz1]
  exact run_firstCells_some w.drew 5 q ⟨g, 0, none⟩ q ss.length ((sesC ss).take (q * 5)) (by rw [List.length_take, hlen]; omega) (fun j v hj => by
   rw [Addr.add_lit]
   rw [List.getElem?_take] at hj
   split at hj
   ·show w.cell? _ = _
    simp only [World.cell?, hg, Nat.zero_add]
    rw [cur_cells htk _ (by omega)]
    exact hj
   ·cases hj)
 obtain ⟨G, hG⟩ : ∃ G, G = grownCap w (ss.length + 1) ss.length 103 := ⟨_, rfl⟩
 obtain ⟨zv, hzv⟩ : ∃ zv : Value, i0.zero = some zv ∧ zv.cells.size = 5 := ⟨_, hz0, rfl⟩
 obtain ⟨ROW, hROW⟩ : ∃ ROW : Array Value, ROW = ((sesC ss).take (q * 5)).toArray ++ Builtin.zeroCells zv.cells (ss.length + 1 - q) ++ Builtin.zeroCells zv.cells (G - (ss.length + 1)) := ⟨_, rfl⟩
 have hrz : ∀ ty, (Builtin.append_ #[31, 3] ty #[.slice (some ⟨g, 0, none⟩) q ss.length, .int .i64 ((ss.length : Int) + 1 - (q : Int))]).run Tryz.prog w = .ok (.slice (some ⟨w.heap.size, 0, none⟩) (ss.length + 1) G) (w.drew.alloc (.cells ROW 103)) := fun ty => by
  have h := Lib.run_append_grow_zeros w 31 3 ty 103 i0 zv .i64 .i64 Tryz.underlying31 Tryz.underlying3 hi hzv.1 (some ⟨g, 0, none⟩) q ss.length ((sesC ss).take (q * 5)) hold (ss.length + 1 - q) (by omega) (by omega) (by omega) (by omega) (by rw [hz2]; omega) (by rw [hz2, hik]; exact growslice_fits (by omega) (by omega))
  rw [hik, ← hG, ← hROW] at h
  rw [hkk]
  exact h
 have hGn : ss.length + 1 ≤ G := by rw [hG]; exact grownCap_ge w _ _ _
 have hGm : G ≤ maxLen := by rw [hG]; exact grownCap_le_maxLen w _ _ _ (by unfold maxLen; omega)
 have hRz : ROW.size = G * 5 := by
  rw [hROW]
  simp only [Array.size_append, List.size_toArray, size_zeroCells, hzv.2, List.length_take, hlen]
  omega
 have hRt : ROW.toList.take (q * 5) = (sesC ss).take (q * 5) := by
  rw [hROW]
  simp only [Array.toList_append, List.append_assoc]
  exact List.take_left' (by rw [List.length_take, hlen]; omega)
 clear hG hold hROW hzv hik hkk zv
 obtain ⟨W1, hW1⟩ : ∃ W1, W1 = w.drew.alloc (.cells ROW 103) := ⟨_, rfl⟩
 have hg1 : W1.heap[w.heap.size]? = some (.cells ROW 103 (0, 0)) := by rw [hW1]; exact heap_alloc_new w.drew _
 have hX1 : W1.heap[vb]? = some (.cells #[.int .i64 s.id, .int .i64 s.sq, .int .i64 s.kd, .int .i64 s.pl, .string s.vl] 103 (0, 0)) := by rw [hW1]; exact (heap_alloc_old w.drew _ hvl).trans hX
 have hc1 : W1.heap[g]? = some (.cells cur 103 (0, 0)) := by rw [hW1]; exact (heap_alloc_old w.drew _ hgl).trans hg
 have hT1 : Touch (fun k => some g = some k) w W1 := by rw [hW1]; exact ⟨rfl, rfl, rfl, by simp, fun k hk _ => heap_alloc_old w.drew _ hk⟩
 have hs1 : w.heap.size < W1.heap.size := by rw [hW1]; simp
 rw [← hW1] at hrz
 clear hW1
 obtain ⟨R1, hR1⟩ : ∃ R1 : List Value, R1 = ROW.toList.take (q * 5) ++ seC s ++ ROW.toList.drop (q * 5 + 5) := ⟨_, rfl⟩
 have hmin2 : Nat.min 1 (ss.length + 1 - q) = 1 := by simp only [Nat.min_def]; split <;> omega
 have hmin : Nat.min (ss.length - q) (ss.length - q) = ss.length - q := by simp only [Nat.min_def]; split <;> omega
 have hcpA : ∀ ty dc, (Builtin.copy_ #[31, 31] ty #[.slice (some ⟨w.heap.size, q * 5, none⟩) (ss.length + 1 - q) dc, .slice (some ⟨vb, 0, none⟩) 1 1]).run Tryz.prog W1 = .ok (goInt 1) (W1.setRow w.heap.size R1.toArray) := fun ty dc => by
  have h := run_copy_rows (P := Tryz.prog) W1 31 31 ty 103 5 w.heap.size (q * 5) (ss.length + 1 - q) dc ⟨vb, 0, none⟩ 1 1 ROW 103 (seC s) Tryz.underlying31 hsz hg1 (by rw [hmin2]; rfl) (World.news_of_block hX1) (by show q * 5 + 5 ≤ ROW.size; rw [hRz]; omega) (seC_one s)
  rw [hmin2] at h
  have e5 : (seC s).length = 5 := rfl
  rw [e5, ← hR1] at h
  exact h
 have hg2 : (W1.setRow w.heap.size R1.toArray).heap[w.heap.size]? = some (.cells R1.toArray 103 (0, 0)) := setRow_heap W1 w.heap.size ROW R1.toArray 103 (0, 0) hg1
 have hc2 : (W1.setRow w.heap.size R1.toArray).heap[g]? = some (.cells cur 103 (0, 0)) := (setRow_other W1 w.heap.size g R1.toArray (by omega)).trans hc1
 have hRl : R1.length = G * 5 := by
  rw [hR1]
  have e5 : (seC s).length = 5 := rfl
  simp only [List.length_append, List.length_take, List.length_drop, Array.length_toList, hRz, e5]
  omega
 obtain ⟨R2, hR2⟩ : ∃ R2 : List Value, R2 = R1.take ((q + 1) * 5) ++ (sesC ss).drop (q * 5) ++ R1.drop ((q + 1) * 5 + ((sesC ss).drop (q * 5)).length) := ⟨_, rfl⟩
 have hcpB : ∀ ty dc sc, (Builtin.copy_ #[31, 31] ty #[.slice (some ⟨w.heap.size, (q + 1) * 5, none⟩) (ss.length - q) dc, .slice (some ⟨g, q * 5, none⟩) (ss.length - q) sc]).run Tryz.prog (W1.setRow w.heap.size R1.toArray).drew = .ok (goInt ((ss.length - q : Nat) : Int)) ((W1.setRow w.heap.size R1.toArray).drew.setRow w.heap.size R2.toArray) := fun ty dc sc => by
  have h := run_copy_rows (P := Tryz.prog) (W1.setRow w.heap.size R1.toArray).drew 31 31 ty 103 5 w.heap.size ((q + 1) * 5) (ss.length - q) dc ⟨g, q * 5, none⟩ (ss.length - q) sc R1.toArray 103 ((sesC ss).drop (q * 5)) Tryz.underlying31 hsz hg2 (by rw [hcl, hmin]) (fun j v hj => by
   have hjl : j < (ss.length - q) * 5 := by rw [← hcl]; exact (List.getElem?_eq_some_iff.1 hj).1
   rw [List.getElem?_drop] at hj
   rw [Addr.add_lit]
   show (W1.setRow w.heap.size R1.toArray).cell? _ = _
   simp only [World.cell?, hc2]
   rw [cur_cells htk _ (by omega)]
   exact hj) (by rw [hcl, List.size_toArray, hRl]; omega) (fun v hv => sesC_one ss v (List.mem_of_mem_drop hv))
  rw [hmin, show R1.toArray.toList = R1 from rfl, ← hR2] at h
  exact h
 have q1 : ¬ ((q : Int) = (ss.length : Int)) := by omega
 have q2 : (ss.length : Int) < (ss.length : Int) + 1 := by omega
 have q3 : IntKind.i64.wrap ((q : Int) + 1) = (q : Int) + 1 := wrapSe _ (by omega) (by omega)
 have q4 : IntKind.i64.wrap ((ss.length : Int) + 1) = (ss.length : Int) + 1 := wrapSe _ (by omega) (by omega)
 have q4b : IntKind.i64.wrap ((ss.length : Int) + 1 - (q : Int)) = (ss.length : Int) + 1 - (q : Int) := wrapSe _ (by omega) (by omega)
 have q5 : ((q : Int) + 1).toNat = q + 1 := by omega
 have q7 : ¬ (G = q + 1) := by omega
 have q7b : ¬ (G = q) := by omega
 have q8 : ¬ (ss.length = q) := by omega
 have q9 : (0 : Int) ≤ (q : Int) + 1 := by omega
 have q10 : q ≤ ss.length := by omega
 have q11 : (q : Int) ≤ (ss.length : Int) + 1 := by omega
 unfold maxLen at hGm
 have HF := Hd (And.intro hR1 (And.intro hRl (And.intro hRz (And.intro hRt (And.intro hGm (And.intro hGn (And.intro hBg (And.intro hT1 (And.intro hs1 (And.intro hg1 (And.intro hg2 hR2)))))))))))
 clear hR1 hRl hcs htk hBg hX1 hg hX hcl hmin hmin2 hlen hRz hRt hT1 hs1 hg1 hg2 hc1 hc2 hcm hnc hR2
 go_enter Tryz.func89, Tryz.ntmps89
 go_wp2_with (first
  | (at_builtin; refine Lib.wpList_append_run _ rfl _ _ _ _ rfl _ _ rfl rfl _ _ (hrz _) ?_)
  | (at_builtin; refine wpList_copy_rows _ rfl _ _ 31 31 rfl _ _ rfl rfl (hcpA _ _) ?_))
 go_region_law (refine step_copy_rows rfl _ _ 31 31 rfl _ _ (by simp [Act.eval, Act.put]) (by simp [Act.eval, Act.put]) (hcpB _ _ _) ?_)
 go_wp2_with fail
 refine bodyPost_ret (v := .slice (some ⟨w.heap.size, 0, none⟩) (ss.length + 1) G) (by simp [results, Tryz.results89, go_sem]) rfl ?_
 obtain ⟨hR1, hRl, hRz, hRt, hGm, hGn, hBg, hT1, hs1, hg1, hg2, hR2⟩ := uh HF
 have hlen := sesC_len ss
 have h5 : (seC s).length = 5 := rfl
 refine ⟨_, rfl, ⟨?_, .inr ⟨w.heap.size, G, R2.toArray, ?_, hB, setRow_heap (W1.setRow w.heap.size R1.toArray).drew w.heap.size R1.toArray _ 103 (0, 0) hg2, ?_, by unfold maxLen; omega, ?_, ?_⟩⟩, .inr ⟨w.heap.size, rfl, Nat.le_refl _⟩, ⟨hT1.os, hT1.tape, hT1.output, ?_, fun k hk hn => ?_⟩⟩
 ·rw [sesC_len]
 ·rw [insS_len _ _ _ (by omega)]
 ·rw [insS_len _ _ _ (by omega)]; exact hGn
 ·rw [List.size_toArray, hR2]
  simp only [List.length_append, List.length_take, List.length_drop, hRl, hlen]
  omega
 ·rw [insS_len _ _ _ (by omega), uh HL]
  have hrt := row_three ROW.toList (seC s) ((sesC ss).drop (q * 5)) (q * 5) (by have := ROW.length_toList; omega) (ROW.toList.drop (q * 5 + 5)) (R1.drop ((q + 1) * 5 + ((sesC ss).drop (q * 5)).length))
  rw [h5, ← hR1, show q * 5 + 5 = (q + 1) * 5 by omega, hRt] at hrt
  rw [hR2, show (ss.length + 1) * 5 = (q + 1) * 5 + ((sesC ss).drop (q * 5)).length by rw [List.length_drop, hlen]; omega]
  simpa using hrt
 ·have : w.heap.size ≤ W1.heap.size := by omega
  simpa [World.setRow] using this
 ·rw [setRow_other _ _ _ _ (by omega)]
  show (W1.setRow w.heap.size R1.toArray).heap[k]? = _
  rw [setRow_other _ _ _ _ (by omega)]
  exact hT1.block k hk hn
theorem ses_cells {w : World} {b off : Nat} {ss : List Se} (hc : ∀ i, i < ss.length → w.cell? ⟨b, off + i * 5, none⟩ = some (.int .i64 (ss.getD i default).id) ∧ w.cell? ⟨b, off + i * 5 + 1, none⟩ = some (.int .i64 (ss.getD i default).sq) ∧ w.cell? ⟨b, off + i * 5 + 2, none⟩ = some (.int .i64 (ss.getD i default).kd) ∧ w.cell? ⟨b, off + i * 5 + 3, none⟩ = some (.int .i64 (ss.getD i default).pl) ∧ w.cell? ⟨b, off + i * 5 + 4, none⟩ = some (.string (ss.getD i default).vl)) (j : Nat) (hj : j < ss.length * 5) : w.cell? ⟨b, off + j, none⟩ = (sesC ss)[j]? := by
 have hi : j / 5 < ss.length := by omega
 obtain ⟨h0, h1, h2, h3, h4⟩ := hc (j / 5) hi
 obtain ⟨e0, e1, e2, e3, e4⟩ := sesC_get ss (j / 5) hi
 rcases (show j % 5 = 0 ∨ j % 5 = 1 ∨ j % 5 = 2 ∨ j % 5 = 3 ∨ j % 5 = 4 by omega) with e | e | e | e | e
 ·rw [show j / 5 * 5 = j by omega] at e0 h0; rw [e0, h0]
 ·rw [show j / 5 * 5 + 1 = j by omega] at e1; rw [show off + j / 5 * 5 + 1 = off + j by omega] at h1; rw [e1, h1]
 ·rw [show j / 5 * 5 + 2 = j by omega] at e2; rw [show off + j / 5 * 5 + 2 = off + j by omega] at h2; rw [e2, h2]
 ·rw [show j / 5 * 5 + 3 = j by omega] at e3; rw [show off + j / 5 * 5 + 3 = off + j by omega] at h3; rw [e3, h3]
 ·rw [show j / 5 * 5 + 4 = j by omega] at e4; rw [show off + j / 5 * 5 + 4 = off + j by omega] at h4; rw [e4, h4]
theorem ses_take {w : World} {a : Option Addr} {cap : Nat} {ss : List Se} (h : Sess w (.slice a ss.length cap) ss) (k c : Nat) (hk : k ≤ ss.length) : Rw w (.slice a k c) k (sesC (ss.take k)) := by
 refine ⟨a, c, rfl, ?_⟩
 obtain ⟨a', cap', e, _, _, hc⟩ := h
 simp only [Value.slice.injEq] at e
 obtain ⟨rfl, _, rfl⟩ := e
 rcases hc with h0 | ⟨b, off, rfl, _, hc⟩
 ·exact .inl (by omega)
 ·refine .inr ⟨_, rfl, fun j u hj => ?_⟩
  have hl : j < (sesC (ss.take k)).length := (List.getElem?_eq_some_iff.1 hj).1
  rw [sesC_len, List.length_take] at hl
  rw [sesC_take, List.getElem?_take_of_lt (by omega)] at hj
  rw [Addr.add_lit, ses_cells hc j (by omega)]
  exact hj
theorem ses_drop {w : World} {b off cap : Nat} {ss : List Se} (h : Sess w (.slice (some ⟨b, off, none⟩) ss.length cap) ss) (k c x : Nat) (hx : k < ss.length → x = off + k * 5) : Rw w (.slice (some ⟨b, x, none⟩) (ss.length - k) c) (ss.length - k) (sesC (ss.drop k)) := by
 refine ⟨_, c, rfl, ?_⟩
 by_cases hk : k < ss.length
 ·obtain ⟨a', cap', e, _, _, hc⟩ := h
  simp only [Value.slice.injEq] at e
  obtain ⟨rfl, _, rfl⟩ := e
  rcases hc with h0 | ⟨b', off', e, _, hc⟩
  ·omega
  ·simp only [Option.some.injEq, Addr.mk.injEq, and_true] at e
   obtain ⟨rfl, rfl⟩ := e
   refine .inr ⟨_, rfl, fun j u hj => ?_⟩
   have hl : j < (sesC (ss.drop k)).length := (List.getElem?_eq_some_iff.1 hj).1
   rw [sesC_len, List.length_drop] at hl
   rw [sesC_drop, List.getElem?_drop] at hj
   rw [Addr.add_lit, hx hk, show off + k * 5 + j = off + (k * 5 + j) by omega, ses_cells hc _ (by omega)]
   exact hj
 ·exact .inl (by omega)
end Go.Proofs.YtbchnheinnileaaGreatDoor
