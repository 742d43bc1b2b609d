/- What the proof of the claim needs (joined by program): ApW ApL ApE ApF ApZ. -/
import Derived.Test.YtbchnheinnileaaGreatDoorQca17
import Derived.Test.YtbchnheinnileaaGreatDoorQca14
import Derived.Test.YtbchnheinnileaaGreatDoorQca16
import Derived.Test.YtbchnheinnileaaGreatDoorQca11
import Derived.Test.YtbchnheinnileaaGreatDoorQca10
import Derived.Test.YtbchnheinnileaaGreatDoorQca05
namespace Go.Proofs.YtbchnheinnileaaGreatDoor.Sha
set_option maxRecDepth 100000
set_option maxHeartbeats 8000000
open Go.ChangeShapes Go.WideShapes Go.ChangeAt Go.RowKit Go.Deep
set_option linter.unusedVariables false
set_option linter.unusedSimpArgs false
def stA (l : List Cm) : Nat → Lst
 | 0 => ⟨[], none, []⟩
 | k + 1 => (apOut (stA l k) (l.getD k default)).1
def reA (l : List Cm) (k : Nat) : Re := (apOut (stA l k) (l.getD k default)).2
def resA (l : List Cm) (k : Nat) : List Re := (List.range k).map (reA l)
theorem resA_succ (l : List Cm) (k : Nat) : resA l (k + 1) = resA l k ++ [reA l k] := by unfold resA; rw [List.range_succ, List.map_append]; rfl
theorem resA_len (l : List Cm) (k : Nat) : (resA l k).length = k := by simp [resA]
theorem lok_nil : LOK ⟨[], none, []⟩ := ⟨by simp, by simp, trivial, trivial, trivial, by simp, fun i j _ h => absurd h (by simp), by simp⟩
theorem stA_ok {l : List Cm} : ∀ (k : Nat), (∀ i, i < k → cmK (l.getD i default) = true) → LOK (stA l k)
 | 0, _ => lok_nil
 | k + 1, h => (ap_ok (stA_ok k (fun i hi => h i (by omega))) (h k (by omega))).1
structure LedB (T : Nat → Prop) (w : World) (x : Lst) (lv kv sv : Value) : Prop where
 s : Strs w lv x.ls
 b : Brs (fun k => ¬ T k) w kv (brOf x.o).kids
 e : Sess w sv x.ss
 ps : 0 < x.ls.length → ∀ k, lv.ownBlock = some k → ¬ T k
 pe : 0 < x.ss.length → ∀ k, sv.ownBlock = some k → ¬ T k
theorem LedB.below {T : Nat → Prop} {w w' : World} {x : Lst} {lv kv sv : Value} (h : LedB T w x lv kv sv) (hb : Below w.heap.size w w') : LedB T w' x lv kv sv := ⟨h.s.below hb, h.b.blw hb, h.e.below hb, h.ps, h.pe⟩
theorem LedB.touch {T T' : Nat → Prop} {w w' : World} {x : Lst} {lv kv sv : Value} (h : LedB T w x lv kv sv) (ht : Touch T' w w') (hT : ∀ k, T' k → T k) : LedB T w' x lv kv sv :=
 ⟨h.s.touch ht (fun hp k hk e => h.ps hp k hk (hT k e)), h.b.touch ht (fun k hk e => hk (hT k e)), h.e.touch ht (fun hp k hk e => h.pe hp k hk (hT k e)), h.ps, h.pe⟩
theorem LedB.mono {T T' : Nat → Prop} {w : World} {x : Lst} {lv kv sv : Value} (h : LedB T w x lv kv sv) (hT : ∀ k, T' k → T k) : LedB T' w x lv kv sv :=
 ⟨h.s, h.b.mono (fun k hk e => hk (hT k e)), h.e, fun hp k hk e => h.ps hp k hk (hT k e), fun hp k hk e => h.pe hp k hk (hT k e)⟩
theorem LedB.up {T : Nat → Prop} {w : World} {x : Lst} {lv kv sv : Value} (h : LedB T w x lv kv sv) : LedB (fun k => T k ∨ w.heap.size ≤ k) w x lv kv sv :=
 ⟨h.s, h.b.boundS.mono (fun k hk e => e.elim hk.1 (fun e => by have := hk.2; omega)), h.e, fun hp k hk e => e.elim (h.ps hp k hk) (fun e => by have := h.s.lowB hp k hk; omega), fun hp k hk e => e.elim (h.pe hp k hk) (fun e => by have := h.e.lowB hp k hk; omega)⟩
theorem LedB.next {T : Nat → Prop} {wc w' : World} {x y : Lst} {lv kv sv lv' kv' sv' : Value} (h : LedB T wc x lv kv sv) (hs : Strs w' lv' y.ls) (hb : Brs (fun _ => True) w' kv' (brOf y.o).kids) (he : Sess w' sv' y.ss) (fl : Fresh wc.heap.size lv lv') (fs : Fresh wc.heap.size sv sv') (hT : ∀ k, T k → k < wc.heap.size ∧ Fin w' k 7) : LedB T w' y lv' kv' sv' :=
 ⟨hs, (Brs.smallO (fun k hk => (hT k hk).2) y.o kv' hb).mono (fun k hk => hk.2), he,
  fun hp k hk e => fl.elim (fun q => by subst q; exact h.ps (by rw [h.s.lenE hs]; exact hp) k hk e) (fun q => by have := q k hk; have := (hT k e).1; omega),
  fun hp k hk e => fs.elim (fun q => by subst q; exact h.pe (by rw [h.e.lenE he]; exact hp) k hk e) (fun q => by have := q k hk; have := (hT k e).1; omega)⟩
theorem LedB.next2 {T : Nat → Prop} {wc w' : World} {x y : Lst} {lv kv sv lv' kv' sv' : Value} (h : LedB T wc x lv kv sv) (hs : Strs w' lv' y.ls) (hb : Brs (fun q => (¬ T q ∧ q < wc.heap.size) ∨ wc.heap.size ≤ q) w' kv' (brOf y.o).kids) (he : Sess w' sv' y.ss) (fl : Fresh wc.heap.size lv lv') (fs : Fresh wc.heap.size sv sv') (hT : ∀ k, T k → k < wc.heap.size) : LedB T w' y lv' kv' sv' :=
 ⟨hs, hb.mono (fun q hq e => by rcases hq with hq | hq; exact hq.1 e; (have := hT q e; omega)), he,
  fun hp k hk e => fl.elim (fun q => by subst q; exact h.ps (by rw [h.s.lenE hs]; exact hp) k hk e) (fun q => by have := q k hk; have := hT k e; omega),
  fun hp k hk e => fs.elim (fun q => by subst q; exact h.pe (by rw [h.e.lenE he]; exact hp) k hk e) (fun q => by have := q k hk; have := hT k e; omega)⟩
theorem LedB.nil (T : Nat → Prop) (w : World) : LedB T w ⟨[], none, []⟩ (.slice none 0 0) (.slice none 0 0) (.slice none 0 0) :=
 ⟨⟨none, 0, rfl, by simp, .inl rfl⟩, .nil none 0 (by unfold maxLen; omega), ⟨none, 0, rfl, by simp, by unfold maxLen; omega, .inl rfl⟩, (fun h => absurd h (by simp)), (fun h => absurd h (by simp))⟩
def ledC (x : Lst) (lv kv sv : Value) : List Value := [lv, .string (brOf x.o).key, .string (brOf x.o).val, .int .i64 (brOf x.o).at_, kv, sv]
theorem LedB.shape {T : Nat → Prop} {w : World} {x : Lst} {lv kv sv : Value} (h : LedB T w x lv kv sv) : ∃ la lc ka kn kc sa sc, lv = .slice la x.ls.length lc ∧ kv = .slice ka kn kc ∧ sv = .slice sa x.ss.length sc := by
 obtain ⟨la, lc, e1, _⟩ := h.s
 obtain ⟨ka, kc, e2, _⟩ := h.b.shape
 obtain ⟨sa, sc, e3, _⟩ := h.e
 exact ⟨la, lc, ka, _, kc, sa, sc, e1, e2, e3⟩
end Go.Proofs.YtbchnheinnileaaGreatDoor.Sha
namespace Go.Proofs.YtbchnheinnileaaGreatDoor
set_option maxRecDepth 100000
set_option maxHeartbeats 8000000
open Go.ChangeShapes Go.WideShapes Go.ChangeAt Go.RowKit Go.Deep
set_option linter.unusedVariables false
set_option linter.unusedSimpArgs false
theorem run_clear_rows {P : Program} (w : World) (t e ty : TypeId) (z : Value) (ht : P.underlying t = some (.slice e)) (hv : ∀ w, (zeroValue e).run P w = .ok z w) (g o n c : Nat) (hn : 0 < n) (cur : Array Value) (et : TypeId)
  (hg : w.heap[g]? = some (.cells cur et (0, 0))) (hfit : o + (Builtin.zeroCells z.cells n).toList.length ≤ cur.size) (h1 : ∀ v ∈ (Builtin.zeroCells z.cells n).toList, v.oneCell' = true) :
  (Builtin.clear_ #[t] ty #[.slice (some ⟨g, o, none⟩) n c]).run P w = .ok (.tuple #[]) (w.setRow g (cur.toList.take o ++ (Builtin.zeroCells z.cells n).toList ++ cur.toList.drop (o + (Builtin.zeroCells z.cells n).toList.length)).toArray) := by
 have hst := run_storeCells_at P g o et (Builtin.zeroCells z.cells n).toList 0 cur w hg (by simpa using hfit) h1
 simp only [Nat.add_zero] at hst
 obtain ⟨m, rfl⟩ : ∃ m, n = m + 1 := ⟨n - 1, by omega⟩
 simp [Builtin.clear_, run_underlying ht, hv, hst]
theorem wpList_clear_rows {P : Program} (w : World) {ops : Array Oper} {rest : List Oper} {o : Oper} {a : Act} {Q : Exit → Act → World → Prop} (hgd : o.guard = none) (s : Operand) (t : TypeId)
  (ho : o.op = .call { callee := .builtin .clear, args := #[s], argTypes := #[t] }) (v : Value) (hs : a.eval s = v) {v' : Value} {w' : World}
  (hr : (Builtin.clear_ #[t] o.type #[v]).run P w = .ok v' w') (h : wpList P ops Q rest (a.put o.dst v') w') : wpList P ops Q (o :: rest) a w :=
 wpList_plain hgd fun _ hK => by
  unfold Oper.wp execOp
  simp only [ho, resolve, invoke, builtin, Sem.run_bind, Sem.run_pure, Result.andThen_ok, List.map_toArray, List.map_cons, List.map_nil, hs, hr]
  exact hK _ _ h
theorem step_append_rows {P : Program} {ops : Array Oper} {o : Oper} {a : Act} {w : World} {K : Act → World → Prop} {Q : Exit → Act → World → Prop} {E : Prop}
  (hg : o.guard = none) (d x : Operand) (dT sT : TypeId) (hop : o.op = Op.call { callee := Callee.builtin Builtin.append, args := #[d, x], argTypes := #[dT, sT] })
  (v u : Value) (hd : a.eval d = v) (hx : a.eval x = u) {v' : Value} {w' : World} (hr : (Builtin.append_ #[dT, sT] o.type #[v, u]).run P w = .ok v' w') (hK : K (a.put o.dst v') w') :
  if Region.wanted o (yielded ops a.tmps) = true then Oper.wp P o a w K Q else E := by
 have hw : Region.wanted o (yielded ops a.tmps) = true := by simp [Region.wanted, hg]
 rw [if_pos hw]
 unfold Oper.wp
 simp [execOp, hop, resolve, invoke, builtin, hd, hx, hr, Result.andThen]
 exact hK
theorem zeroSe_ (w : World) : (zeroValue 103).run Tryz.prog w = .ok (.agg #[.int .i64 0, .int .i64 0, .int .i64 0, .int .i64 0, .string ⟨#[]⟩]) w := by kernel_rfl
theorem zeroCells_se : (Builtin.zeroCells (Value.agg #[.int .i64 0, .int .i64 0, .int .i64 0, .int .i64 0, .string ⟨#[]⟩]).cells 1).toList = [.int .i64 0, .int .i64 0, .int .i64 0, .int .i64 0, .string ⟨#[]⟩] := by kernel_rfl
theorem delete_any (B g cap : Nat) (ss : List Se) (q : Nat) (w : World) (hO : OwnSe B w (.slice (some ⟨g, 0, none⟩) ss.length cap) ss) (hs : ss.length ≤ 1000) (hq : q < ss.length) :
  Calls Tryz.prog 70 #[.slice (some ⟨g, 0, none⟩) ss.length cap, .int .i64 q, .int .i64 ((q : Int) + 1)] w fun e w' => InsR B (some g) (delS ss q) w e w' := by
 obtain ⟨i0, hi, hz0, hz1, hz2⟩ := info_parts infoSe
 have hlen := sesC_len ss
 have HL := Hd (sesC_del ss q)
 have HLn := Hd (delS_len ss q hq)
 obtain ⟨cur, hg, hcm, hnc, hcs, htk, hBg⟩ := own_cur hO
 clear hO
 unfold maxLen at hcm
 have hone := sesC_one ss
 generalize delS ss q = ss2 at *
 generalize sesC ss = xs at *
 generalize ss.length = n at *
 clear ss
 obtain ⟨m, rfl⟩ : ∃ m, n = q + 1 + m := ⟨n - q - 1, by omega⟩
 have hcl : (xs.drop ((q + 1) * 5)).length = m * 5 := by rw [List.length_drop, hlen]; omega
 obtain ⟨R1, hR1⟩ : ∃ R1 : List Value, R1 = cur.toList.take (q * 5) ++ xs.drop ((q + 1) * 5) ++ cur.toList.drop (q * 5 + (xs.drop ((q + 1) * 5)).length) := ⟨_, rfl⟩
 have hap : ∀ ty (b : Nat) sc, (0 < m → b = (q + 1) * 5) → (Builtin.append_ #[31, 31] ty #[.slice (some ⟨g, 0, none⟩) q cap, .slice (some ⟨g, b, none⟩) m sc]).run Tryz.prog w.drew = .ok (.slice (some ⟨g, 0, none⟩) (q + m) cap) (w.drew.setRow g R1.toArray) := fun ty b sc hb => by
  have h := run_append_room (P := Tryz.prog) w.drew 31 ty 103 i0 Tryz.underlying31 hi g q cap cur hg ⟨g, b, none⟩ m sc (xs.drop ((q + 1) * 5)) (by rw [hcl, hz1]) (fun j v hj => by
   have hjl : j < m * 5 := by rw [← hcl]; exact (List.getElem?_eq_some_iff.1 hj).1
   rw [List.getElem?_drop] at hj
   rw [Addr.add_lit, hb (by omega)]
   show w.cell? _ = _
   simp only [World.cell?, hg]
   rw [cur_cells htk _ (by omega)]
   exact hj) (fun v hv => hone v (List.mem_of_mem_drop hv)) (by omega) (by rw [hcl, hz1, hcs]; omega)
  rw [hz1, ← hR1] at h
  exact h
 have hRl : R1.length = cap * 5 := by
  rw [hR1]
  simp only [List.length_append, List.length_take, List.length_drop, Array.length_toList, hcs, hlen]
  omega
 have hW1 : (w.drew.setRow g R1.toArray).heap[g]? = some (.cells R1.toArray 103 (0, 0)) := setRow_heap w.drew g cur R1.toArray 103 (0, 0) hg
 obtain ⟨zs, hzs⟩ : ∃ zs : List Value, zs = (Builtin.zeroCells (Value.agg #[.int .i64 0, .int .i64 0, .int .i64 0, .int .i64 0, .string ⟨#[]⟩]).cells 1).toList := ⟨_, rfl⟩
 have hzl : zs.length = 5 := by rw [hzs, zeroCells_se]; rfl
 have hz1' : ∀ v ∈ zs, v.oneCell' = true := by
  rw [hzs, zeroCells_se]
  intro v hv
  simp only [List.mem_cons, List.not_mem_nil, or_false] at hv
  rcases hv with rfl | rfl | rfl | rfl | rfl <;> rfl
 obtain ⟨R2, hR2⟩ : ∃ R2 : List Value, R2 = R1.take ((q + m) * 5) ++ zs ++ R1.drop ((q + m) * 5 + 5) := ⟨_, rfl⟩
 have hcr : ∀ ty sc, (Builtin.clear_ #[31] ty #[.slice (some ⟨g, (q + m) * 5, none⟩) 1 sc]).run Tryz.prog (w.drew.setRow g R1.toArray) = .ok (.tuple #[]) ((w.drew.setRow g R1.toArray).setRow g R2.toArray) := fun ty sc => by
  have h := run_clear_rows (P := Tryz.prog) (w.drew.setRow g R1.toArray) 31 103 ty _ Tryz.underlying31 zeroSe_ g ((q + m) * 5) 1 sc (by omega) R1.toArray 103 hW1 (by rw [← hzs, hzl, List.size_toArray, hRl]; omega) (by rw [← hzs]; exact hz1')
  rw [← hzs, hzl, show R1.toArray.toList = R1 from rfl, ← hR2] at h
  exact h
 have q1 : ¬ ((q : Int) = (q : Int) + 1) := by omega
 have q2 : (0 : Int) ≤ (q : Int) + 1 := by omega
 have q3 : ((q : Int) + 1).toNat = q + 1 := by omega
 have q5 : q + 1 + m - (q + 1) = m := by omega
 have q6 : q + 1 + m - (q + m) = 1 := by omega
 have q7 : ¬ (cap = q + m) := by omega
 have q8 : q + 1 + m ≤ cap := hnc
 have q9 : q ≤ cap := by omega
 have q11 : (q : Int) ≤ (q : Int) + 1 := by omega
 have q12 : (q : Int) + 1 ≤ (q : Int) + 1 + (m : Int) := by omega
 have q13 : (0 : Int) ≤ (m : Int) := by omega
 have q14 : (q : Int) ≤ (cap : Int) := by omega
 have q10 : q + m ≤ q + 1 + m := by omega
 have hself : m = 0 → w.drew.setRow g R1.toArray = w.drew := fun e => by
  have e1 : xs.drop ((q + 1) * 5) = [] := List.eq_nil_of_length_eq_zero (by rw [hcl, e])
  have e2 : R1 = cur.toList := by rw [hR1, e1]; simp
  rw [e2, Array.toArray_toList]
  exact setRow_self w.drew g cur 103 (0, 0) hg
 have HF := Hd (And.intro hR1 (And.intro hRl (And.intro hcs (And.intro htk (And.intro hcm (And.intro hBg (And.intro hR2 (And.intro hzl (And.intro hW1 hlen)))))))))
 clear hR1 hRl hcs htk hBg hR2 hW1 hlen hzl hz1' hzs hone hcl hg
 by_cases hce : cap = q + 1
 ·obtain rfl : m = 0 := by omega
  have hap1 := fun ty sc => hap ty 0 sc (fun h => by omega)
  clear hap
  subst hce
  rw [hself rfl] at hcr HF
  clear hself hap1
  simp only [Nat.add_zero, Nat.zero_mul] at hcr q12 q8 q7 q6 q5 HF HLn
  go_enter Tryz.func70, Tryz.ntmps70
  go_wp2_with fail
  go_region_law fail
  go_wp2_with (at_builtin; refine wpList_clear_rows _ rfl _ 31 rfl _ rfl (hcr _ _) ?_)
  refine bodyPost_ret (v := .slice (some ⟨g, 0, none⟩) q (q + 1)) (by simp [results, Tryz.results70, go_sem]) rfl ?_
  obtain ⟨hR1, hRl, hcs, htk, hcm, hBg, hR2, hzl, hW1, hlen⟩ := uh HF
  have hl2 : ss2.length = q := by have := uh HLn; omega
  have hx2 : (xs.drop ((q + 1) * 5)).length = 0 := by rw [List.length_drop, hlen]; omega
  have hR1t : R1.take (q * 5) = xs.take (q * 5) ++ xs.drop ((q + 1) * 5) := by
   have htk2 : cur.toList.take (q * 5) = xs.take (q * 5) := by rw [← htk, List.take_take, show min (q * 5) ((q + 1) * 5) = q * 5 by omega]
   rw [hR1, htk2]
   exact List.take_left' (by rw [List.length_append, hx2, List.length_take, hlen]; omega)
  refine ⟨_, rfl, ⟨?_, .inr ⟨g, (q + 1), R2.toArray, ?_, hBg, setRow_heap w.drew g R1.toArray _ 103 (0, 0) hW1, ?_, by unfold maxLen; omega, ?_, ?_⟩⟩, .inl rfl, ⟨rfl, rfl, rfl, by simp [World.setRow], fun k hk hn => ?_⟩⟩
  ·rw [sesC_len]
  ·rw [hl2]
  ·rw [hl2]; omega
  ·rw [List.size_toArray, hR2]
   simp only [List.length_append, List.length_take, List.length_drop, hRl, hzl]
   omega
  ·rw [hl2, uh HL, hR2, ← hR1t]
   have : (R1.take (q * 5)).length = q * 5 := by rw [List.length_take, hRl]; omega
   show ((R1.take (q * 5) ++ zs) ++ R1.drop (q * 5 + 5)).take (q * 5) = _
   rw [List.append_assoc]
   exact List.take_left' this
  ·have hne : k ≠ g := fun e => hn (by rw [e])
   rw [setRow_other _ _ _ _ hne]
   rfl
 ·have hap1 := fun ty sc => hap ty ((q + 1) * 5) sc (fun _ => rfl)
  clear hap hself
  go_enter Tryz.func70, Tryz.ntmps70
  go_wp2_with fail
  go_region_law (refine step_append_rows rfl _ _ 31 31 rfl (.slice (some ⟨g, 0, none⟩) q cap) (.slice (some ⟨g, (q + 1) * 5, none⟩) m (cap - (q + 1))) (by simp [Act.eval, Act.put]) (by simp [Act.eval, Act.put]) (hap1 _ (cap - (q + 1))) ?_)
  go_wp2_with (at_builtin; refine wpList_clear_rows _ rfl _ 31 rfl _ rfl (hcr _ _) ?_)
  refine bodyPost_ret (v := .slice (some ⟨g, 0, none⟩) (q + m) cap) (by simp [results, Tryz.results70, go_sem]) rfl ?_
  obtain ⟨hR1, hRl, hcs, htk, hcm, hBg, hR2, hzl, hW1, hlen⟩ := uh HF
  have hl2 : ss2.length = q + m := by have := uh HLn; omega
  have hx2 : (xs.drop ((q + 1) * 5)).length = m * 5 := by rw [List.length_drop, hlen]; omega
  have hR1t : R1.take ((q + m) * 5) = xs.take (q * 5) ++ xs.drop ((q + 1) * 5) := by
   have htk2 : cur.toList.take (q * 5) = xs.take (q * 5) := by rw [← htk, List.take_take, show min (q * 5) ((q + 1 + m) * 5) = q * 5 by omega]
   rw [hR1, htk2]
   exact List.take_left' (by rw [List.length_append, hx2, List.length_take, hlen]; omega)
  refine ⟨_, rfl, ⟨?_, .inr ⟨g, cap, R2.toArray, ?_, hBg, setRow_heap (w.drew.setRow g R1.toArray) g R1.toArray _ 103 (0, 0) hW1, ?_, by unfold maxLen; omega, ?_, ?_⟩⟩, .inl rfl, ⟨rfl, rfl, rfl, by simp [World.setRow], fun k hk hn => ?_⟩⟩
  ·rw [sesC_len]
  ·rw [hl2]
  ·rw [hl2]; omega
  ·rw [List.size_toArray, hR2]
   simp only [List.length_append, List.length_take, List.length_drop, hRl, hzl]
   omega
  ·rw [hl2, uh HL, hR2, ← hR1t]
   have : (R1.take ((q + m) * 5)).length = (q + m) * 5 := by rw [List.length_take, hRl]; omega
   show ((R1.take ((q + m) * 5) ++ zs) ++ R1.drop ((q + m) * 5 + 5)).take ((q + m) * 5) = _
   rw [List.append_assoc]
   exact List.take_left' this
  ·have hne : k ≠ g := fun e => hn (by rw [e])
   rw [setRow_other _ _ _ _ hne, setRow_other _ _ _ _ hne]
   rfl
end Go.Proofs.YtbchnheinnileaaGreatDoor
namespace Go.Proofs.YtbchnheinnileaaGreatDoor.Sha
set_option maxRecDepth 100000
set_option maxHeartbeats 8000000
open Go.ChangeShapes Go.WideShapes Go.ChangeAt Go.RowKit Go.Deep
set_option linter.unusedVariables false
set_option linter.unusedSimpArgs false
theorem Bk.sess {B : Nat} {w w1 : World} {p : Nat} {lv : Value} {tp : Option Addr} {sv v' : Value} {S : Nat → Prop} {ls : List ByteArray} {o : Option Tr} {ss l : List Se} (h : Bk B w p lv tp sv S ls o ss) (hB : B ≤ w.heap.size) (hO : OwnSe B w1 v' l) (hat : v'.ownBlock = sv.ownBlock ∨ ∃ g, v'.ownBlock = some g ∧ w.heap.size ≤ g) (ht : Touch (fun k => sv.ownBlock = some k) w w1) :
  Bk B (w1.setCell ⟨p, 2, none⟩ v') p lv tp v' S ls o l ∧ (∀ r, r < w.heap.size → Av p lv sv S r → Av p lv v' S r) ∧ Touch (fun q => ¬ Av p lv sv S q) w (w1.setCell ⟨p, 2, none⟩ v') := by
 obtain ⟨h1, h2, h3, h4, h5, h6, h7, h8, h9⟩ := h
 have hl := h3.lt
 have hp := h1.1
 have TS := (Touch.refl (fun k => k = p) w1).setCell ⟨p, 2, none⟩ v' (fun _ => rfl)
 have T1 : Touch (fun k => sv.ownBlock = some k ∨ k = p) w w1 := ⟨ht.os, ht.tape, ht.output, ht.size, fun k hk hn => ht.block k hk (fun e => hn (.inl e))⟩
 have T2 := T1.trans TS (fun j _ e => Or.inr e)
 have hsz := T2.size
 have hvp : v'.ownBlock ≠ some p := by
  rcases hat with e | ⟨g, e, hg⟩
  ·rw [e]; exact h8
  ·rw [e]; intro e2; simp only [Option.some.injEq] at e2; omega
 refine ⟨⟨?_, h2, h3.kept T2 (fun k hk e => ?_), hO.kept TS (fun k hk e => hvp (by rw [hk, e])), ?_, fun x hx => ?_, h7, hvp, fun x hx e2 => ?_⟩, fun r hr ha => ⟨ha.1, ha.2.1, ?_, ha.2.2.2⟩, ⟨T2.os, T2.tape, T2.output, T2.size, fun k hk hn => T2.block k hk (fun e => hn (fun ha => ?_))⟩⟩
 ·have := (h1.kept ht h8).set 2 v' (by simp)
  simpa using this
 ·rcases e with e | e
  ·exact h9 k hk e
  ·exact h7 (by rw [hk, e])
 ·cases o with
  | none => exact h5
  | some t => obtain ⟨q, e, hq⟩ := h5; exact ⟨q, e, hq.touch T2 (fun k hk e2 => by
    rcases e2 with e2 | e2
    ·exact (h6 k hk).2.2.2.2 e2
    ·exact (h6 k hk).2.2.1 e2)⟩
 ·obtain ⟨a1, a2, a3, a4, a5⟩ := h6 x hx
  refine ⟨a1, by omega, a3, a4, ?_⟩
  rcases hat with e | ⟨g, e, hg⟩
  ·rw [e]; exact a5
  ·rw [e]; intro e2; simp only [Option.some.injEq] at e2; omega
 ·rcases hat with e | ⟨g, e, hg⟩
  ·exact h9 x hx (by rw [← e]; exact e2)
  ·rw [e] at e2
   simp only [Option.some.injEq] at e2
   have := (hl x hx).2
   omega
 ·rcases hat with e | ⟨g, e, hg⟩
  ·rw [e]; exact ha.2.2.1
  ·rw [e]; intro e2; simp only [Option.some.injEq] at e2; omega
 ·rcases e with e | e
  ·exact ha.2.2.1 e
  ·exact ha.1 e
theorem insert_any (B : Nat) (sv : Value) (ss : List Se) (q : Nat) (s : Se) (vb : Nat) (w : World) (hO : OwnSe B w sv ss) (hX : w.heap[vb]? = some (.cells #[.int .i64 s.id, .int .i64 s.sq, .int .i64 s.kd, .int .i64 s.pl, .string s.vl] 103 (0, 0))) (hB : B ≤ w.heap.size) (hs : ss.length ≤ 1000) (hq : q ≤ ss.length) (hvb : sv.ownBlock ≠ some vb) :
  Calls Tryz.prog 89 #[sv, .int .i64 q, .slice (some ⟨vb, 0, none⟩) 1 1] w fun e w' => InsR B sv.ownBlock (insS ss q s) w e w' := by
 by_cases h1 : q = ss.length
 ·subst h1
  exact insert_end B sv ss s vb w hO hX hB hs
 ·obtain ⟨g, cap, rfl, _, _⟩ := World.ownsRow.form hO (by omega)
  by_cases h2 : ss.length + 1 ≤ cap
  ·exact insert_room B g cap ss q s vb w hO hX hB hs (by omega) h2 (fun e => hvb (by rw [e]; rfl))
  ·exact insert_grow B g cap ss q s vb w hO hX hB hs (by omega) (by omega)
def opOut (x : Lst) (id : Int) (q : Nat) : Lst × Re := if x.ss.length = 8 then (x, ⟨6, 0, ⟨#[]⟩⟩) else (⟨x.ls, x.o, insS x.ss q (newS id)⟩, ⟨1, 0, ⟨#[]⟩⟩)
theorem open_any (B p q : Nat) (lv sv : Value) (tp : Option Addr) (S : Nat → Prop) (ls : List ByteArray) (o : Option Tr) (ss : List Se) (id : Int) (w : World) (hk : Bk B w p lv tp sv S ls o ss) (hB : B ≤ w.heap.size) (hs : ss.length ≤ 8) (hq : q ≤ ss.length) :
  Calls Tryz.prog 69 #[.pointer (some ⟨p, 0, none⟩), .int .i64 q, .int .i64 id] w fun e w' => ApR B p lv sv S (opOut ⟨ls, o, ss⟩ id q) w e w' := by
 have HU : Hid (opOut ⟨ls, o, ss⟩ id q = if ss.length = 8 then (⟨ls, o, ss⟩, ⟨6, 0, ⟨#[]⟩⟩) else (⟨ls, o, insS ss q (newS id)⟩, ⟨1, 0, ⟨#[]⟩⟩)) := Hd rfl
 obtain ⟨a, cp, rfl⟩ : ∃ a cp, sv = .slice a ss.length cp := by
  rcases hk.2.2.2.1.2 with ⟨e, e0⟩ | ⟨g, cp, cu, e, _⟩
  ·exact ⟨none, 0, by rw [e, e0]⟩
  ·exact ⟨_, _, e⟩
 have HBK := Hd hk
 have B0 := Hd (bal w (.cells #[.int .i64 0, .int .i64 0, .string ⟨#[]⟩] 82))
 have R0 := Hd (Blk.new w #[.int .i64 0, .int .i64 0, .string ⟨#[]⟩] 82 w.heap.size rfl)
 clear hk
 go_enter Tryz.func69, Tryz.ntmps69
 go_upto_region 1 with fail
 generalize w.alloc (.cells #[.int .i64 0, .int .i64 0, .string ⟨#[]⟩] 82) = w0 at *
 have hw0 : w.heap.size < w0.heap.size := (uh R0).1
 have BK0 := Hd ((uh HBK).below (uh B0))
 have y2 := (uh BK0).1.cell 2 rfl
 by_cases h8 : ss.length = 8
 ·have b1 : ((ss.length : Int) == 8) = true := by rw [h8]; rfl
  rw [if_pos h8] at HU
  have H8 := Hd h8
  clear h8
  have RX := uh R0
  obtain ⟨⟨rz0, rz1, rz2⟩, fz0, fz1, fz2⟩ := Blk.c3 RX
  have HR9 := Hd (((RX.set 0 (.int .i64 6) (by simp)).set 1 (.int .i64 0) (by simp)).set 2 (.string ⟨#[]⟩) (by simp))
  have HT9 := Hd ((((Touch.refl (fun q => q = w.heap.size) w0).setCell ⟨w.heap.size, 0, none⟩ (.int .i64 6) (fun _ => rfl)).setCell ⟨w.heap.size, 1, none⟩ (.int .i64 0) (fun _ => rfl)).setCell ⟨w.heap.size, 2, none⟩ (.string ⟨#[]⟩) (fun _ => rfl))
  clear RX
  go_wp2_with fail
  have R9 := uh HR9
  have z0 := R9.cell 0 rfl
  have z1 := R9.cell 1 rfl
  have z2 := R9.cell 2 rfl
  refine bodyPost_ret (v := .agg #[.int .i64 6, .int .i64 0, .string ⟨#[]⟩]) (by simp [results, Tryz.results69, go_sem, z0, z1, z2]) rfl ?_
  refine ap_tell (uh HU) ⟨rfl, lv, tp, _, S, (uh BK0).keep (uh HT9) (fun k e => by rw [e]; exact (uh HBK).av _ (Nat.le_refl _)), fun r _ ha => ha, ?_⟩
  exact (Touch.ofBelow (uh B0)).trans (uh HT9) (fun j hj e => by omega)
 ·have b1 : ((ss.length : Int) == 8) = false := by rw [beq_eq_false_iff_ne]; omega
  rw [if_neg h8] at HU
  have bA := bal w0 (.cells #[.int .i64 id, .int .i64 0, .int .i64 0, .int .i64 0, .string ⟨#[]⟩] 103)
  have BK1 := Hd ((uh BK0).below bA)
  have R1 := Hd ((uh R0).below bA)
  have B1 := hbt B0 bA
  have hX : (w0.alloc (.cells #[.int .i64 id, .int .i64 0, .int .i64 0, .int .i64 0, .string ⟨#[]⟩] 103)).heap[w0.heap.size]? = some (.cells #[.int .i64 (newS id).id, .int .i64 (newS id).sq, .int .i64 (newS id).kd, .int .i64 (newS id).pl, .string (newS id).vl] 103 (0, 0)) := heap_alloc_new w0 _
  have hB1 : B ≤ (w0.alloc (.cells #[.int .i64 id, .int .i64 0, .int .i64 0, .int .i64 0, .string ⟨#[]⟩] 103)).heap.size := by simp; omega
  have HIN := Hd (insert_any B _ ss q (newS id) w0.heap.size _ (uh BK1).2.2.2.1 hX hB1 (by omega) hq (fun e => by have := ((uh BK0).2.2.2.1.lt _ e).2; omega))
  have HB1 := Hd hB1
  have hz1 : w.heap.size + 1 < (w0.alloc (.cells #[.int .i64 id, .int .i64 0, .int .i64 0, .int .i64 0, .string ⟨#[]⟩] 103)).heap.size := by simp; omega
  have HZ1 := Hd hz1
  have HY := Hd ((uh BK1).1)
  clear bA hX hB1 h8 hz1
  go_wp2_with fail
  refine (uh HIN).mono ?_
  rintro e w2 ⟨v2, rfl, hO2, hat2, hT2⟩
  obtain ⟨g2, c2, rfl, _, _⟩ := World.ownsRow.form hO2 (by rw [insS_len _ _ _ hq]; omega)
  obtain ⟨n2, hn2⟩ : ∃ n2, n2 = (insS ss q (newS id)).length := ⟨_, rfl⟩
  rw [← hn2] at hO2 hat2 ⊢
  have HN2 := Hd hn2
  clear hn2
  have X2 := (uh HY).kept hT2 (uh HBK).2.2.2.2.2.2.2.1
  have z2 := X2.cell 2 rfl
  have fz := X2.fro 2
  obtain ⟨bk3, av3, t3⟩ := (uh BK1).sess (uh HB1) hO2 hat2 hT2
  have HAv := Hd (fun r (hr : w.heap.size ≤ r) => (uh HBK).av r hr)
  have BK3 := Hd bk3
  have hrl : w.heap.size < (w0.alloc (.cells #[.int .i64 id, .int .i64 0, .int .i64 0, .int .i64 0, .string ⟨#[]⟩] 103)).heap.size := by have := uh HZ1; omega
  have HR3 := Hd (av3 _ hrl (uh HAv _ (Nat.le_refl _)))
  have R3 := Hd ((uh R1).kept t3 (fun h => h (uh HAv _ (Nat.le_refl _))))
  have T3 := Hd ((Touch.ofBelow (T := fun k => ¬ Av p lv (.slice a ss.length cp) S k) (uh B1)).trans t3 (fun _ _ e => e))
  have HAV3 := Hd (fun r (hr : r < w.heap.size) (ha : Av p lv (.slice a ss.length cp) S r) => av3 r (by omega) ha)
  clear HIN hO2 hat2 hT2 X2 bk3 av3 t3 BK0 BK1 R0 R1 B0 B1 HY y2
  go_upto_region 4 with fail
  clear z2 fz
  generalize w2.setCell ⟨p, 2, none⟩ (.slice (some ⟨g2, 0, none⟩) n2 c2) = w3 at *
  have hw3 : w.heap.size < w3.heap.size := (uh R3).1
  have RX := uh R3
  obtain ⟨⟨rz0, rz1, rz2⟩, fz0, fz1, fz2⟩ := Blk.c3 RX
  have HR9 := Hd (((RX.set 0 (.int .i64 1) (by simp)).set 1 (.int .i64 0) (by simp)).set 2 (.string ⟨#[]⟩) (by simp))
  have HT9 := Hd ((((Touch.refl (fun q => q = w.heap.size) w3).setCell ⟨w.heap.size, 0, none⟩ (.int .i64 1) (fun _ => rfl)).setCell ⟨w.heap.size, 1, none⟩ (.int .i64 0) (fun _ => rfl)).setCell ⟨w.heap.size, 2, none⟩ (.string ⟨#[]⟩) (fun _ => rfl))
  clear RX
  go_wp2_with fail
  have R9 := uh HR9
  have z0 := R9.cell 0 rfl
  have z1 := R9.cell 1 rfl
  have z2 := R9.cell 2 rfl
  refine bodyPost_ret (v := .agg #[.int .i64 1, .int .i64 0, .string ⟨#[]⟩]) (by simp [results, Tryz.results69, go_sem, z0, z1, z2]) rfl ?_
  refine ap_tell (uh HU) ⟨rfl, lv, tp, .slice (some ⟨g2, 0, none⟩) n2 c2, S, (uh BK3).keep (uh HT9) (fun k e => by rw [e]; exact uh HR3), uh HAV3, ?_⟩
  exact (uh T3).trans (uh HT9) (fun j hj e => by omega)
theorem apply_any (B p : Nat) (lv sv : Value) (tp : Option Addr) (S : Nat → Prop) (ls : List ByteArray) (o : Option Tr) (ss : List Se) (c : Cm) (w : World) (hk : Bk B w p lv tp sv S ls o ss) (hL : LOK ⟨ls, o, ss⟩) (hc : cmK c = true) (hB : B ≤ w.heap.size) (ht : Tab w) (hG1 : 0 < B) (hG2 : 1 < B) :
  Calls Tryz.prog 50 #[.pointer (some ⟨p, 0, none⟩), .agg #[.int .i64 c.kd, .int .i64 c.ss, .int .i64 c.sq, .string c.ky, .string c.vl]] w fun e w' => ApR B p lv sv S (apOut ⟨ls, o, ss⟩ c) w e w' := by
 have hLm := hL.m
 have hLr := hL.rs
 dsimp only at hLm hLr
 obtain ⟨a, cp, rfl⟩ : ∃ a cp, sv = .slice a ss.length cp := by
  rcases hk.2.2.2.1.2 with ⟨e, e0⟩ | ⟨g, cp, cu, e, _⟩
  ·exact ⟨none, 0, by rw [e, e0]⟩
  ·exact ⟨_, _, e⟩
 have hpos := pos_is (id := c.ss) hLr
 have HHas : Hid (hasS ss c.ss = true → posS ss c.ss < ss.length) := Hd (fun h => (has_iff.1 h).1)
 have HU : Hid (apOut ⟨ls, o, ss⟩ c = if c.kd = 4 then (if hasS ss c.ss then (⟨ls, o, ss⟩, ⟨5, 0, ⟨#[]⟩⟩) else if ss.length = 8 then (⟨ls, o, ss⟩, ⟨6, 0, ⟨#[]⟩⟩) else (⟨ls, o, insS ss (posS ss c.ss) (newS c.ss)⟩, ⟨1, 0, ⟨#[]⟩⟩))
  else if hasS ss c.ss = false then (⟨ls, o, ss⟩, ⟨4, 0, ⟨#[]⟩⟩)
  else if c.kd = 5 then (⟨ls, o, delS ss (posS ss c.ss)⟩, ⟨1, 0, ⟨#[]⟩⟩)
  else svOut ⟨ls, o, ss⟩ c (posS ss c.ss)) := Hd rfl
 have HSE := Hd (fun wx (hx : Bk B wx p lv tp (.slice a ss.length cp) S ls o ss) => session_any p _ ss c.ss wx hx.2.2.2.1.read (hx.1.cell 2 rfl) (by omega) hLr)
 have HOP := Hd (fun wx (hx : Below w.heap.size w wx) => open_any B p (posS ss c.ss) lv (.slice a ss.length cp) tp S ls o ss c.ss wx (hk.below hx) (by have := hx.size; omega) hLm hpos.le)
 have HSV := Hd (fun wx g (hx : Below w.heap.size w wx) (h4 : c.kd ≠ 4) (h5 : c.kd ≠ 5) (he : a = some ⟨g, 0, none⟩) (hq : posS ss c.ss < ss.length) => serve_any B p g cp (posS ss c.ss) lv tp S ls o ss c wx (by have := hk.below hx; rw [he] at this; exact this) hL hc h4 h5 (by have := hx.size; omega) (ht.below hx) hG1 hG2 hq)
 have HDL := Hd (fun wx g (hx : Below w.heap.size w wx) (he : a = some ⟨g, 0, none⟩) (hq : posS ss c.ss < ss.length) => delete_any B g cp ss (posS ss c.ss) wx (by have := (hk.below hx).2.2.2.1; rw [he] at this; exact this) (by omega) hq)
 have HBK := Hd hk
 have HAv := Hd (fun r (hr : w.heap.size ≤ r) => hk.av r hr)
 have hple := hpos.le
 generalize hasS ss c.ss = has at *
 generalize posS ss c.ss = q at *
 have B0 := Hd ((bal w (.cells #[.int .i64 c.kd, .int .i64 c.ss, .int .i64 c.sq, .string c.ky, .string c.vl] 77)).alloc (by simp) (.cells #[.int .i64 0, .int .i64 0, .string ⟨#[]⟩] 82))
 have C0 := Hd ((Blk.new w #[.int .i64 c.kd, .int .i64 c.ss, .int .i64 c.sq, .string c.ky, .string c.vl] 77 w.heap.size rfl).alloc (.cells #[.int .i64 0, .int .i64 0, .string ⟨#[]⟩] 82))
 have R0 := Hd (Blk.new (w.alloc (.cells #[.int .i64 c.kd, .int .i64 c.ss, .int .i64 c.sq, .string c.ky, .string c.vl] 77)) #[.int .i64 0, .int .i64 0, .string ⟨#[]⟩] 82 (w.heap.size + 1) (by simp))
 clear hk hL hc ht hpos hLr
 go_enter Tryz.func50, Tryz.ntmps50
 go_upto_region 1 with fail
 generalize (w.alloc (.cells #[.int .i64 c.kd, .int .i64 c.ss, .int .i64 c.sq, .string c.ky, .string c.vl] 77)).alloc (.cells #[.int .i64 0, .int .i64 0, .string ⟨#[]⟩] 82) = w0 at *
 have hw0 : w.heap.size + 1 < w0.heap.size := (uh R0).1
 have HS1 := Hd (uh HSE w0 ((uh HBK).below (uh B0)))
 have x1 := (uh C0).cell 1 rfl
 clear HSE
 go_wp2_with fail
 refine (uh HS1).mono ?_
 rintro e w1 ⟨rfl, hb⟩
 have K1 := hbt B0 hb
 have C1 := Hd ((uh C0).below hb)
 have R1 := Hd ((uh R0).below hb)
 have BK1 := Hd ((uh HBK).below (uh K1))
 have hw1 : w.heap.size + 1 < w1.heap.size := (uh R1).1
 clear hb HS1 x1 B0 C0 R0
 have y0 := (uh C1).cell 0 rfl
 by_cases h4 : c.kd = 4
 ·have b1 : (c.kd == 4) = true := by rw [h4]; rfl
  have H4 := Hd h4
  clear h4
  cases has
  ·have HO1 := Hd (uh HOP w1 (uh K1))
   have HUO : Hid (apOut ⟨ls, o, ss⟩ c = opOut ⟨ls, o, ss⟩ c.ss q) := Hd (by rw [uh HU, if_pos (uh H4)]; rfl)
   have y1 := (uh C1).cell 1 rfl
   clear HOP HSV HDL
   generalize opOut ⟨ls, o, ss⟩ c.ss q = out at *
   obtain ⟨⟨lsN, oN, ssN⟩, ⟨rk, rp, rv⟩⟩ := out
   go_wp2_with fail
   refine (uh HO1).mono ?_
   rintro e w2 ⟨rfl, lv2, tp2, sv2, S2, bk2, av2, t2⟩
   dsimp only at bk2 ⊢
   have HR2 := Hd (av2 _ (by have := (uh R1).1; omega) (uh HAv _ (by omega)))
   have R2 := Hd ((uh R1).kept t2 (fun h => h (uh HAv _ (by omega))))
   have T2 := Hd ((Touch.ofBelow (T := fun k => ¬ Av p lv (.slice a ss.length cp) S k) (uh K1)).trans t2 (fun _ _ e => e))
   have HAV2 := Hd (fun r (hr : r < w.heap.size) (ha : Av p lv (.slice a ss.length cp) S r) => av2 r (by have := (uh K1).size; omega) ha)
   have BK2 := Hd bk2
   have hw2 : w.heap.size + 1 < w2.heap.size := (uh R2).1
   clear bk2 av2 t2 y0 y1 HO1
   have RX := uh R2
   obtain ⟨⟨rz0, rz1, rz2⟩, fz0, fz1, fz2⟩ := Blk.c3 RX
   have HR9 := Hd (((RX.set 0 (.int .i64 rk) (by simp)).set 1 (.int .i64 rp) (by simp)).set 2 (.string rv) (by simp))
   have HT9 := Hd ((((Touch.refl (fun q => q = w.heap.size + 1) w2).setCell ⟨w.heap.size + 1, 0, none⟩ (.int .i64 rk) (fun _ => rfl)).setCell ⟨w.heap.size + 1, 1, none⟩ (.int .i64 rp) (fun _ => rfl)).setCell ⟨w.heap.size + 1, 2, none⟩ (.string rv) (fun _ => rfl))
   clear RX
   go_wp2_with fail
   have R9 := uh HR9
   have z0 := R9.cell 0 rfl
   have z1 := R9.cell 1 rfl
   have z2 := R9.cell 2 rfl
   refine bodyPost_ret (v := .agg #[.int .i64 rk, .int .i64 rp, .string rv]) (by simp [results, Tryz.results50, go_sem, z0, z1, z2]) rfl ?_
   refine ap_tell (uh HUO) ⟨rfl, lv2, tp2, sv2, S2, (uh BK2).keep (uh HT9) (fun k e => by rw [e]; exact uh HR2), uh HAV2, ?_⟩
   exact (uh T2).trans (uh HT9) (fun j hj e => by omega)
  ·clear HOP HSV HDL
   have RX := uh R1
   obtain ⟨⟨rz0, rz1, rz2⟩, fz0, fz1, fz2⟩ := Blk.c3 RX
   have HR9 := Hd (((RX.set 0 (.int .i64 5) (by simp)).set 1 (.int .i64 0) (by simp)).set 2 (.string ⟨#[]⟩) (by simp))
   have HT9 := Hd ((((Touch.refl (fun q => q = w.heap.size + 1) w1).setCell ⟨w.heap.size + 1, 0, none⟩ (.int .i64 5) (fun _ => rfl)).setCell ⟨w.heap.size + 1, 1, none⟩ (.int .i64 0) (fun _ => rfl)).setCell ⟨w.heap.size + 1, 2, none⟩ (.string ⟨#[]⟩) (fun _ => rfl))
   clear RX
   go_wp2_with fail
   have R9 := uh HR9
   have z0 := R9.cell 0 rfl
   have z1 := R9.cell 1 rfl
   have z2 := R9.cell 2 rfl
   refine bodyPost_ret (v := .agg #[.int .i64 5, .int .i64 0, .string ⟨#[]⟩]) (by simp [results, Tryz.results50, go_sem, z0, z1, z2]) rfl ?_
   refine ap_tell (by rw [uh HU, if_pos (uh H4), if_pos (by first | trivial | rfl)]) ⟨rfl, lv, tp, (.slice a ss.length cp), S, (uh BK1).keep (uh HT9) (fun k e => by rw [e]; exact uh HAv _ (by omega)), fun r _ ha => ha, ?_⟩
   exact (Touch.ofBelow (uh K1)).trans (uh HT9) (fun j hj e => by omega)
 have b1 : (c.kd == 4) = false := by rw [beq_eq_false_iff_ne]; exact h4
 have H4 := Hd h4
 clear h4
 cases has
 ·clear HOP HSV HDL
  have RX := uh R1
  obtain ⟨⟨rz0, rz1, rz2⟩, fz0, fz1, fz2⟩ := Blk.c3 RX
  have HR9 := Hd (((RX.set 0 (.int .i64 4) (by simp)).set 1 (.int .i64 0) (by simp)).set 2 (.string ⟨#[]⟩) (by simp))
  have HT9 := Hd ((((Touch.refl (fun q => q = w.heap.size + 1) w1).setCell ⟨w.heap.size + 1, 0, none⟩ (.int .i64 4) (fun _ => rfl)).setCell ⟨w.heap.size + 1, 1, none⟩ (.int .i64 0) (fun _ => rfl)).setCell ⟨w.heap.size + 1, 2, none⟩ (.string ⟨#[]⟩) (fun _ => rfl))
  clear RX
  go_wp2_with fail
  have R9 := uh HR9
  have z0 := R9.cell 0 rfl
  have z1 := R9.cell 1 rfl
  have z2 := R9.cell 2 rfl
  refine bodyPost_ret (v := .agg #[.int .i64 4, .int .i64 0, .string ⟨#[]⟩]) (by simp [results, Tryz.results50, go_sem, z0, z1, z2]) rfl ?_
  refine ap_tell (by rw [uh HU, if_neg (uh H4), if_pos (by first | trivial | rfl)]) ⟨rfl, lv, tp, (.slice a ss.length cp), S, (uh BK1).keep (uh HT9) (fun k e => by rw [e]; exact uh HAv _ (by omega)), fun r _ ha => ha, ?_⟩
  exact (Touch.ofBelow (uh K1)).trans (uh HT9) (fun j hj e => by omega)
 have hq : q < ss.length := uh HHas (by first | trivial | rfl)
 obtain ⟨g, hga⟩ : ∃ g, a = some ⟨g, 0, none⟩ := by
  obtain ⟨g, cap, e, _, _⟩ := World.ownsRow.form (uh BK1).2.2.2.1 (by omega)
  simp only [Value.slice.injEq] at e
  exact ⟨g, e.1⟩
 have HGA := Hd hga
 subst hga
 by_cases h5 : c.kd = 5
 ·have b2 : (c.kd == 5) = true := by rw [h5]; rfl
  have H5 := Hd h5
  clear h5
  have HD1 := Hd (uh HDL w1 g (uh K1) rfl hq)
  have q1 : IntKind.i64.wrap ((q : Int) + 1) = (q : Int) + 1 := wrapSe2 _ (by omega) (by omega)
  have y2 := (uh BK1).1.cell 2 rfl
  have HUO : Hid (apOut ⟨ls, o, ss⟩ c = (⟨ls, o, delS ss q⟩, ⟨1, 0, ⟨#[]⟩⟩)) := Hd (by rw [uh HU, if_neg (uh H4), if_neg (by simp), if_pos (uh H5)])
  clear HOP HSV HDL
  go_wp2_with fail
  refine (uh HD1).mono ?_
  rintro e w2 ⟨v2, rfl, hO2, hat2, hT2⟩
  obtain ⟨a2, n2, c2, rfl⟩ : ∃ a2 n2 c2, v2 = .slice a2 n2 c2 := by
   rcases hO2.2 with ⟨e2, _⟩ | ⟨g4, c4, cu, e2, _⟩
   ·exact ⟨_, _, _, e2⟩
   ·exact ⟨_, _, _, e2⟩
  have X2 := (uh BK1).1.kept (T := fun k => some g = some k) hT2 (uh BK1).2.2.2.2.2.2.2.1
  have z2 := X2.cell 2 rfl
  have fz := X2.fro 2
  obtain ⟨bk2, av2, t2⟩ := (uh BK1).sess (by have := (uh K1).size; omega) hO2 hat2 hT2
  have HR2 := Hd (av2 _ (by have := (uh R1).1; omega) (uh HAv _ (by omega)))
  have R2 := Hd ((uh R1).kept t2 (fun h => h (uh HAv _ (by omega))))
  have T2 := Hd ((Touch.ofBelow (T := fun k => ¬ Av p lv (.slice (some ⟨g, 0, none⟩) ss.length cp) S k) (uh K1)).trans t2 (fun _ _ e => e))
  have HAV2 := Hd (fun r (hr : r < w.heap.size) (ha : Av p lv (.slice (some ⟨g, 0, none⟩) ss.length cp) S r) => av2 r (by have := (uh K1).size; omega) ha)
  have BK2 := Hd bk2
  clear bk2 av2 t2 y0 y2 HD1 hO2 hat2 hT2 X2 q1
  go_upto_region 10 with fail
  clear z2 fz
  generalize w2.setCell ⟨p, 2, none⟩ (.slice a2 n2 c2) = w3 at *
  have hw3 : w.heap.size + 1 < w3.heap.size := (uh R2).1
  have RX := uh R2
  obtain ⟨⟨rz0, rz1, rz2⟩, fz0, fz1, fz2⟩ := Blk.c3 RX
  have HR9 := Hd (((RX.set 0 (.int .i64 1) (by simp)).set 1 (.int .i64 0) (by simp)).set 2 (.string ⟨#[]⟩) (by simp))
  have HT9 := Hd ((((Touch.refl (fun q => q = w.heap.size + 1) w3).setCell ⟨w.heap.size + 1, 0, none⟩ (.int .i64 1) (fun _ => rfl)).setCell ⟨w.heap.size + 1, 1, none⟩ (.int .i64 0) (fun _ => rfl)).setCell ⟨w.heap.size + 1, 2, none⟩ (.string ⟨#[]⟩) (fun _ => rfl))
  clear RX
  go_wp2_with fail
  have R9 := uh HR9
  have z0 := R9.cell 0 rfl
  have z1 := R9.cell 1 rfl
  have z2 := R9.cell 2 rfl
  refine bodyPost_ret (v := .agg #[.int .i64 1, .int .i64 0, .string ⟨#[]⟩]) (by simp [results, Tryz.results50, go_sem, z0, z1, z2]) rfl ?_
  refine ap_tell (uh HUO) ⟨rfl, lv, tp, .slice a2 n2 c2, S, (uh BK2).keep (uh HT9) (fun k e => by rw [e]; exact uh HR2), uh HAV2, ?_⟩
  exact (uh T2).trans (uh HT9) (fun j hj e => by omega)
 have b2 : (c.kd == 5) = false := by rw [beq_eq_false_iff_ne]; exact h5
 have HUO : Hid (apOut ⟨ls, o, ss⟩ c = svOut ⟨ls, o, ss⟩ c q) := Hd (by rw [uh HU, if_neg (uh H4), if_neg (by simp), if_neg h5])
 have hb2 := below_drewN (Below.refl w1.heap.size w1) 1
 have K3 := hbt K1 hb2
 change Hid (Below w.heap.size w w1.drew) at K3
 have HV1 := Hd (uh HSV w1.drew g (uh K3) (uh H4) h5 rfl hq)
 generalize svOut ⟨ls, o, ss⟩ c q = out at *
 obtain ⟨⟨lsN, oN, ssN⟩, ⟨rk, rp, rv⟩⟩ := out
 have y2 := (uh BK1).1.cell 2 rfl
 have hcl : w.heap.size < w1.drew.heap.size := (uh C1).1
 obtain ⟨x0, x1, x2, x3, x4⟩ := Blk.c5 (uh C1)
 have m0 : (0 : Int) ≤ (q : Int) := by omega
 have m1 : (q : Int) < (ss.length : Int) := by omega
 clear HOP HSV HDL hb2 h5
 go_upto_region 11 with fail
 clear y0
 refine wp_region_noPanic ?_
 refine wp_region_held_drew (S := (fun wx => wx.cell? ⟨w.heap.size, 0, none⟩ = some (.int .i64 c.kd) ∧ wx.cell? ⟨w.heap.size, 1, none⟩ = some (.int .i64 c.ss) ∧ wx.cell? ⟨w.heap.size, 2, none⟩ = some (.int .i64 c.sq) ∧ wx.cell? ⟨w.heap.size, 3, none⟩ = some (.string c.ky) ∧ wx.cell? ⟨w.heap.size, 4, none⟩ = some (.string c.vl))) (by kernel_rfl) ?_ (fun hHeld => ?_)
 ·exact ⟨x0, x1, x2, x3, x4⟩
 refine tkH 0 rfl ?_
 refine tkH 1 rfl ?_
 refine tkH 2 rfl ?_
 refine tkH 3 rfl ?_
 refine tkH 5 rfl ?_
 refine tkH 7 rfl ?_
 refine rdy1 4 rfl (fun K hK => ?_)
 have y3 : w1.drew.cell? ⟨p, 2, none⟩ = some (.slice (some ⟨g, 0, none⟩) ss.length cp) := y2
 go_simp
 refine hK.out _ _ ?_ (fun hHeld => ?_)
 ·exact ⟨x0, x1, x2, x3, x4⟩
 clear hK K y3
 (try simp only [Act.put, List.getElem_toArray, List.getElem_cons_succ, List.getElem_cons_zero, List.setIfInBounds_toArray, List.set_cons_zero, List.set_cons_succ])
 refine tkH 6 rfl ?_
 refine rdy1 8 rfl (fun K hK => ?_)
 go_simp
 refine (uh HV1).mono ?_
 rintro e w2 ⟨rfl, lv2, tp2, sv2, S2, bk2, av2, t2⟩
 dsimp only at bk2
 have k0 := fun i => touch_cell t2 w.heap.size i hcl (fun h => h (uh HAv _ (Nat.le_refl _)))
 have HR2 := Hd (av2 _ (show w.heap.size + 1 < w1.drew.heap.size from hw1) (uh HAv _ (by omega)))
 have R2 := Hd (((uh R1).drewN 1).kept t2 (fun h => h (uh HAv _ (by omega))))
 have T2 := Hd ((Touch.ofBelow (T := fun k => ¬ Av p lv (.slice (some ⟨g, 0, none⟩) ss.length cp) S k) (uh K3)).trans t2 (fun _ _ e => e))
 have HAV2 := Hd (fun r (hr : r < w.heap.size) (ha : Av p lv (.slice (some ⟨g, 0, none⟩) ss.length cp) S r) => av2 r (by have := (uh K3).size; omega) ha)
 have BK2 := Hd bk2
 have x30 := (k0 0).trans x0
 have x31 := (k0 1).trans x1
 have x32 := (k0 2).trans x2
 have x33 := (k0 3).trans x3
 have x34 := (k0 4).trans x4
 have hw2 : w.heap.size + 1 < w2.heap.size := (uh R2).1
 clear bk2 av2 t2 k0 HV1
 go_wp2_with fail
 refine outH hK ?_ (fun hHeld => ?_)
 ·exact ⟨x30, x31, x32, x33, x34⟩
 clear hK K
 have RX := uh R2
 obtain ⟨⟨rz0, rz1, rz2⟩, fz0, fz1, fz2⟩ := Blk.c3 RX
 have HR9 := Hd (((RX.set 0 (.int .i64 rk) (by simp)).set 1 (.int .i64 rp) (by simp)).set 2 (.string rv) (by simp))
 have HT9 := Hd ((((Touch.refl (fun q => q = w.heap.size + 1) w2).setCell ⟨w.heap.size + 1, 0, none⟩ (.int .i64 rk) (fun _ => rfl)).setCell ⟨w.heap.size + 1, 1, none⟩ (.int .i64 rp) (fun _ => rfl)).setCell ⟨w.heap.size + 1, 2, none⟩ (.string rv) (fun _ => rfl))
 clear RX
 refine rdy1 9 rfl (fun K hK => ?_)
 go_simp
 refine outH hK ?_ (fun hHeld => ?_)
 ·exact ⟨by go_simp, by go_simp, by go_simp, by go_simp, by go_simp⟩
 clear hK K
 refine wpAnyH_done (by kernel_rfl) (NoPanic.normal ?_) _
 clear hHeld
 go_wp2_with fail
 have R9 := uh HR9
 have z0 := R9.cell 0 rfl
 have z1 := R9.cell 1 rfl
 have z2 := R9.cell 2 rfl
 refine bodyPost_ret (v := .agg #[.int .i64 rk, .int .i64 rp, .string rv]) (by simp [results, Tryz.results50, go_sem, z0, z1, z2]) rfl ?_
 refine ap_tell (uh HUO) ⟨rfl, lv2, tp2, sv2, S2, (uh BK2).keep (uh HT9) (fun k e => by rw [e]; exact uh HR2), uh HAV2, ?_⟩
 exact (uh T2).trans (uh HT9) (fun j hj e => by omega)
theorem branch_o {w0 : World} {S : Nat → Prop} {tp : Option Addr} {o : Option Tr} (h : PtrM w0 S tp o) (hok : OkO o) (w : World) (hb : Below w0.heap.size w0 w) :
  Calls Tryz.prog 72 #[.pointer tp] w fun e w' => BranchR (brOf o) w e w' := by
 cases o with
 | none => obtain rfl : tp = none := h; exact branch_nil w
 | some t => obtain ⟨q, rfl, hn⟩ := h; exact branch_any hn hok w hb
theorem ledger_any (B p : Nat) (lv sv : Value) (tp : Option Addr) (S : Nat → Prop) (ls : List ByteArray) (o : Option Tr) (ss : List Se) (w : World) (hk : Bk B w p lv tp sv S ls o ss) (hok : OkO o) (hB : B ≤ w.heap.size) :
  Calls Tryz.prog 51 #[.pointer (some ⟨p, 0, none⟩)] w fun e w' => ∃ kv, e = .returned (.agg #[lv, .string (brOf o).key, .string (brOf o).val, .int .i64 (brOf o).at_, kv, sv]) ∧ OwnS B w' lv ls ∧ OwnSe B w' sv ss ∧ (∀ x, lv.ownBlock = some x → sv.ownBlock ≠ some x) ∧ BrO w' (fun x => w.heap.size ≤ x ∧ x < w'.heap.size) kv (brOf o).kids ∧ Below w.heap.size w w' := by
 obtain ⟨la, lc, e1, _⟩ := hk.2.2.1.strs
 obtain ⟨sa, sc, e2, _⟩ := hk.2.2.2.1.read
 subst e1
 subst e2
 have HBK := Hd hk
 have hpp := hk.1.1
 have HBR := Hd (fun wx (hx : Below w.heap.size w wx) => branch_o hk.2.2.2.2.1 hok wx hx)
 have B0 := Hd (bal w (.cells #[.slice none 0 0, .string ⟨#[]⟩, .string ⟨#[]⟩, .int .i64 0, .slice none 0 0, .slice none 0 0] 33))
 have R0 := Hd (Blk.new w #[.slice none 0 0, .string ⟨#[]⟩, .string ⟨#[]⟩, .int .i64 0, .slice none 0 0, .slice none 0 0] 33 w.heap.size rfl)
 have P0 := Hd (hk.1.alloc (.cells #[.slice none 0 0, .string ⟨#[]⟩, .string ⟨#[]⟩, .int .i64 0, .slice none 0 0, .slice none 0 0] 33))
 clear hk
 generalize ls.length = ln at *
 generalize ss.length = sn at *
 obtain ⟨bN, hbN⟩ : ∃ bN, bN = brOf o := ⟨_, rfl⟩
 rw [← hbN] at HBR ⊢
 clear hbN
 go_enter Tryz.func51, Tryz.ntmps51
 go_upto_region 1 with fail
 generalize w.alloc (.cells #[.slice none 0 0, .string ⟨#[]⟩, .string ⟨#[]⟩, .int .i64 0, .slice none 0 0, .slice none 0 0] 33) = w0 at *
 have hw0 : w.heap.size < w0.heap.size := (uh R0).1
 have hp0 : p < w0.heap.size := by omega
 have x0 := (uh P0).cell 0 rfl
 have x1 := (uh P0).cell 1 rfl
 have x2 := (uh P0).cell 2 rfl
 refine wp_region_noPanic ?_
 refine wp_region_held_drew (S := (fun wx => wx.cell? ⟨p, 0, none⟩ = some (.slice la ln lc) ∧ wx.cell? ⟨p, 1, none⟩ = some (.pointer tp) ∧ wx.cell? ⟨p, 2, none⟩ = some (.slice sa sn sc))) (by kernel_rfl) ?_ (fun hHeld => ?_)
 ·exact ⟨x0, x1, x2⟩
 refine tkH 0 rfl ?_
 refine tkH 1 rfl ?_
 refine tkH 2 rfl ?_
 refine tkH 3 rfl ?_
 refine tkH 4 rfl ?_
 refine tkH 5 rfl ?_
 refine tkH 6 rfl ?_
 refine tkH 7 rfl ?_
 refine tkH 8 rfl ?_
 refine tkH 9 rfl ?_
 refine tkH 11 rfl ?_
 refine tkH 12 rfl ?_
 refine tkH 13 rfl ?_
 refine tkH 14 rfl ?_
 have hdr := below_drewN (Below.refl w0.heap.size w0) 1
 have K1 := hbt B0 hdr
 have R1 := Hd ((uh R0).below hdr)
 have P1 := Hd ((uh P0).below hdr)
 change Hid (Below w.heap.size w w0.drew) at K1
 change Hid (Blk w0.drew _ _) at R1
 change Hid (Blk w0.drew _ _) at P1
 clear hdr B0 R0 P0 x0 x1 x2 hw0 hp0
 generalize w0.drew = w1 at *
 have hw1 : w.heap.size < w1.heap.size := (uh R1).1
 have hp1 : p < w1.heap.size := by omega
 have x0 := (uh P1).cell 0 rfl
 have x1 := (uh P1).cell 1 rfl
 have x2 := (uh P1).cell 2 rfl
 have HB1 := Hd (uh HBR w1 (uh K1))
 refine rdy1 10 rfl (fun K hK => ?_)
 go_simp
 refine (uh HB1).mono ?_
 rintro e w3 ⟨ka, kn, kc, rfl, hbo, hb3⟩
 have HBO := Hd hbo
 have HB3 := Hd hb3
 have K3 := hbt K1 hb3
 have R3 := Hd ((uh R1).below hb3)
 have hs3 := hb3.size
 go_wp2_with fail
 refine outH hK ?_ (fun hHeld => ?_)
 ·exact ⟨(hb3.cell (p := ⟨p, 0, none⟩) hp1).trans x0, (hb3.cell (p := ⟨p, 1, none⟩) hp1).trans x1, (hb3.cell (p := ⟨p, 2, none⟩) hp1).trans x2⟩
 clear hK K
 refine tkH 15 rfl ?_
 obtain ⟨⟨r0, r1, r2, r3, r4, r5⟩, _⟩ := Blk.c6 (uh R3)
 have rf0 := (uh R3).fro 0
 have rf1 := (uh R3).fro 1
 have rf2 := (uh R3).fro 2
 have rf3 := (uh R3).fro 3
 have rf4 := (uh R3).fro 4
 have rf5 := (uh R3).fro 5
 have T9 := (((((((Touch.refl (fun x => x = w.heap.size) w3).setCell ⟨w.heap.size, 0, none⟩ (.slice la ln lc) (fun _ => rfl)).setCell ⟨w.heap.size, 1, none⟩ (.string bN.key) (fun _ => rfl)).setCell ⟨w.heap.size, 2, none⟩ (.string bN.val) (fun _ => rfl)).setCell ⟨w.heap.size, 3, none⟩ (.int .i64 bN.at_) (fun _ => rfl)).setCell ⟨w.heap.size, 4, none⟩ (.slice ka kn kc) (fun _ => rfl)).setCell ⟨w.heap.size, 5, none⟩ (.slice sa sn sc) (fun _ => rfl))
 have R9 := Hd (((((((uh R3).set 0 (.slice la ln lc) (by simp)).set 1 (.string bN.key) (by simp)).set 2 (.string bN.val) (by simp)).set 3 (.int .i64 bN.at_) (by simp)).set 4 (.slice ka kn kc) (by simp)).set 5 (.slice sa sn sc) (by simp))
 have hkc := fun (i : Nat) (v : Value) (h : w1.cell? ⟨p, i, none⟩ = some v) => (T9.cell (p := ⟨p, i, none⟩) (show p < w3.heap.size by omega) (show ¬ p = w.heap.size by omega)).trans ((hb3.cell (p := ⟨p, i, none⟩) hp1).trans h)
 refine rdy1 16 rfl (fun K hK => ?_)
 go_simp
 refine outH hK ?_ (fun hHeld => ?_)
 ·exact ⟨hkc _ _ x0, hkc _ _ x1, hkc _ _ x2⟩
 clear hK K
 refine wpAnyH_done (by kernel_rfl) (NoPanic.normal ?_) _
 clear hHeld hkc
 have K9 := Hd ((uh K3).trans (T9.below (uh K3).size (fun x hx e => by omega)))
 have HO9 := Hd (hbo.touch T9 (fun x hx e => by have := hx.1; omega))
 have hs9 := T9.size
 clear T9 hbo hb3
 generalize ((((((w3.setCell ⟨w.heap.size, 0, none⟩ (.slice la ln lc)).setCell ⟨w.heap.size, 1, none⟩ (.string bN.key)).setCell ⟨w.heap.size, 2, none⟩ (.string bN.val)).setCell ⟨w.heap.size, 3, none⟩ (.int .i64 bN.at_)).setCell ⟨w.heap.size, 4, none⟩ (.slice ka kn kc)).setCell ⟨w.heap.size, 5, none⟩ (.slice sa sn sc)) = w9 at *
 go_wp2_with fail
 have R9' := uh R9
 obtain ⟨⟨z0, z1, z2, z3, z4, z5⟩, _⟩ := Blk.c6 R9'
 refine bodyPost_ret (v := .agg #[.slice la ln lc, .string bN.key, .string bN.val, .int .i64 bN.at_, .slice ka kn kc, .slice sa sn sc]) (by simp [results, Tryz.results51, go_sem, z0, z1, z2, z3, z4, z5]) rfl ?_
 obtain ⟨h1, h2, h3, h4, h5, h6, h7, h8, h9⟩ := (uh HBK).below (uh K9)
 exact ⟨_, rfl, h3, h4, h9, (uh HO9).mono (fun x hx => ⟨by have := hx.1; omega, by have := hx.2; omega⟩), uh K9⟩
end Go.Proofs.YtbchnheinnileaaGreatDoor.Sha
