/- Two states held against each other: spec.l05Same, both SameState. -/
import Derived.Test.YtlicgahjdgipkalStE
import Derived.Test.YtlicgahjdgipkalStP
namespace Go.Proofs.Ytlicgahjdgipkal
open Go.ChangeShapes Go.WideShapes Go.ChangeAt Go.RowKit
set_option linter.unusedVariables false

theorem eqSt_1 {tm vo tm2 vo2 : Int} {x y : List En} (h : tm ≠ tm2) : eqSt tm vo x tm2 vo2 y = false := by simp [eqSt, h]
theorem eqSt_2 {tm vo tm2 vo2 : Int} {x y : List En} (h : vo ≠ vo2) : eqSt tm vo x tm2 vo2 y = false := by simp [eqSt, h]
theorem eqSt_3 {tm vo tm2 vo2 : Int} {x y : List En} (h : tm = tm2) (h2 : vo = vo2) : eqSt tm vo x tm2 vo2 y = eqEns x y := by simp [eqSt, h, h2]

set_option maxRecDepth 100000 in
set_option maxHeartbeats 1000000 in
theorem l05Same_any (tm vo tm2 vo2 : Int) (u v : Value) (x y : List En) (w : World) (hx : Ens w u x) (hy : Ens w v y) (hlx : x.length ≤ 1048576) (hly : y.length ≤ 1048576) :
    Calls Try.prog 54 #[.agg #[.int .i64 tm, .int .i64 vo, u], .agg #[.int .i64 tm2, .int .i64 vo2, v]] w fun e w' => e = .returned (.bool (eqSt tm vo x tm2 vo2 y)) ∧ Below w.heap.size w w' := by
  obtain ⟨a, cap, rfl, hn, hm, hc⟩ := hx
  obtain ⟨a2, cap2, rfl, hn2, hm2, hc2⟩ := hy
  have HC := hide hc
  have HC2 := hide hc2
  clear hc hc2 hn hm hn2 hm2
  have B0 := hide (((Below.refl w.heap.size w).alloc (Nat.le_refl _) (.cells #[.int .i64 tm, .int .i64 vo, .slice a x.length cap] 29)).alloc (by simp) (.cells #[.int .i64 tm2, .int .i64 vo2, .slice a2 y.length cap2] 29))
  by_cases h1 : tm = tm2
  case neg =>
    have HD := hide (eqSt_1 (vo := vo) (vo2 := vo2) (x := x) (y := y) h1)
    have h1b : (tm == tm2) = false := by rw [beq_eq_false_iff_ne]; exact h1
    go_enter Try.func54, Try.ntmps54
    go_wp2_with fail
    go_ret
    exact ⟨ret_bool (unhide HD).symm, unhide B0⟩
  by_cases h2 : vo = vo2
  case neg =>
    have HD := hide (eqSt_2 (tm := tm) (tm2 := tm2) (x := x) (y := y) h2)
    have h2b : (vo == vo2) = false := by rw [beq_eq_false_iff_ne]; exact h2
    subst h1
    go_enter Try.func54, Try.ntmps54
    go_wp2_with fail
    go_ret
    exact ⟨ret_bool (unhide HD).symm, unhide B0⟩
  have HES := hide (eqSt_3 (x := x) (y := y) h1 h2)
  subst h1 h2
  by_cases hl : x.length = y.length
  case neg =>
    have HD : Hid (eqEns x y = false) := hide (by unfold eqEns; rw [decide_eq_false hl]; simp)
    have hl2 : ((x.length : Int) == (y.length : Int)) = false := by rw [beq_eq_false_iff_ne]; omega
    go_enter Try.func54, Try.ntmps54
    go_wp2_with fail
    go_ret
    exact ⟨ret_bool ((unhide HES).trans (unhide HD)).symm, unhide B0⟩
  have HL := hide hl
  have hl' := hl.symm
  rw [hl'] at HC2 hly B0 ⊢
  clear hl hl'
  have X1 := hide ((Blk.new w #[.int .i64 tm, .int .i64 vo, .slice a x.length cap] 29 w.heap.size rfl).alloc (.cells #[.int .i64 tm, .int .i64 vo, .slice a2 x.length cap2] 29))
  have X2 := hide (Blk.new (w.alloc (.cells #[.int .i64 tm, .int .i64 vo, .slice a x.length cap] 29)) #[.int .i64 tm, .int .i64 vo, .slice a2 x.length cap2] 29 (w.heap.size + 1) (by simp))
  go_enter Try.func54, Try.ntmps54
  go_wp2_with fail
  generalize (w.alloc (.cells #[.int .i64 tm, .int .i64 vo, .slice a x.length cap] 29)).alloc (.cells #[.int .i64 tm, .int .i64 vo, .slice a2 x.length cap2] 29) = w0 at *
  have z1 := (unhide X1).cell 2 rfl
  have z2 := (unhide X2).cell 2 rfl
  have zs := (unhide X2).1
  go_loopw [5] (fun i wr => ∃ k n : Nat, k ≤ x.length ∧ i = .int .i64 k ∧ enTo x y k ∧ wr = w0.drewN n) (fun i _ => x.length - (intOf i).toNat)
  case atStart => exact ⟨0, 0, Nat.zero_le _, rfl, fun i hi => by omega, rfl⟩
  case round =>
    obtain ⟨k, n, hk, rfl, hgo, rfl⟩ := hrel
    by_cases hlt : k < x.length
    · obtain ⟨b, off, rfl, hbl, hsrc⟩ : ∃ b off, a = some ⟨b, off, none⟩ ∧ b < w.heap.size ∧ ∀ i, i < x.length → w.cell? ⟨b, off + i * 3, none⟩ = some (.int .i64 (x.getD i default).t) ∧ w.cell? ⟨b, off + i * 3 + 1, none⟩ = some (.int .i64 (x.getD i default).k) ∧ w.cell? ⟨b, off + i * 3 + 2, none⟩ = some (.string (x.getD i default).d) := by
        rcases unhide HC with h0 | h1
        · omega
        · exact h1
      obtain ⟨b2, off2, rfl, hbl2, hsrc2⟩ : ∃ b off, a2 = some ⟨b, off, none⟩ ∧ b < w.heap.size ∧ ∀ i, i < x.length → w.cell? ⟨b, off + i * 3, none⟩ = some (.int .i64 (y.getD i default).t) ∧ w.cell? ⟨b, off + i * 3 + 1, none⟩ = some (.int .i64 (y.getD i default).k) ∧ w.cell? ⟨b, off + i * 3 + 2, none⟩ = some (.string (y.getD i default).d) := by
        rcases unhide HC2 with h0 | h1
        · omega
        · exact h1
      obtain ⟨s0, s1, s2⟩ := hsrc k hlt
      obtain ⟨t0, t1, t2⟩ := hsrc2 k hlt
      have hb := below_drewN (unhide B0) n
      have e1 : (w0.drewN n).cell? ⟨w.heap.size, 2, none⟩ = _ := z1
      have e2 : (w0.drewN n).cell? ⟨w.heap.size + 1, 2, none⟩ = _ := z2
      have c0 := (hb.cell (p := ⟨b, off + k * 3, none⟩) hbl).trans s0
      have c1 := (hb.cell (p := ⟨b, off + k * 3 + 1, none⟩) hbl).trans s1
      have c2 := (hb.cell (p := ⟨b, off + k * 3 + 2, none⟩) hbl).trans s2
      have d0 := (hb.cell (p := ⟨b2, off2 + k * 3, none⟩) hbl2).trans t0
      have d1 := (hb.cell (p := ⟨b2, off2 + k * 3 + 1, none⟩) hbl2).trans t1
      have d2 := (hb.cell (p := ⟨b2, off2 + k * 3 + 2, none⟩) hbl2).trans t2
      have hk0 : (0 : Int) ≤ (k : Int) := by omega
      have hk1 : (k : Int) < (x.length : Int) := by omega
      have HB := hide hb
      have HNX := hide (fun h => hgo.next h)
      have HBD := hide (fun h => eqEns_bad (x := x) (y := y) (k := k) hlt h)
      clear hsrc hsrc2 s0 s1 s2 t0 t1 t2 hb hgo z1 z2
      generalize x.getD k default = f at *
      generalize y.getD k default = g at *
      obtain ⟨ft, fk, fd⟩ := f
      obtain ⟨gt, gk, gd⟩ := g
      dsimp only at c0 c1 c2 d0 d1 d2
      have q1 := fun wx => neq_ent wx ft gt fk gk fd gd
      have q3 : Try.prog.eqGuardType Try.prog.depth 62 = false := by kernel_rfl
      have HDN : Hid (∀ m, (w0.drewN n).drewN m = w0.drewN (n + m)) := hide (fun m => World.drewN_drewN _ _ _)
      obtain ⟨wq, hwq⟩ : ∃ wq, wq = w0.drewN n := ⟨_, rfl⟩
      rw [← hwq] at e1 e2 c0 c1 c2 d0 d1 d2 HB HDN ⊢
      clear hwq
      go_wp2_with fail
      cases hq : enEq ⟨ft, fk, fd⟩ ⟨gt, gk, gd⟩
      · have HD := hide (unhide HBD hq)
        go_quiet (fail)
        go_wp2_with fail
        go_ret
        exact ⟨ret_bool ((unhide HES).trans (unhide HD)).symm, below_drewN (unhide HB) _⟩
      · have HN := hide (unhide HNX hq)
        go_quiet (fail)
        go_wp2_with fail
        refine ⟨⟨k + 1, n + nq, by omega, by go_num, unhide HN, unhide HDN nq⟩, ?_⟩
        simp [intOf]; omega
    · obtain rfl : k = x.length := by omega
      have HD := hide (eqEns_all (unhide HL) hgo)
      have HBW := hide (below_drewN (unhide B0) n)
      have e1 : (w0.drewN n).cell? ⟨w.heap.size, 2, none⟩ = _ := z1
      clear hgo z1 z2
      generalize w0.drewN n = wq at *
      go_wp2_with fail
      go_ret
      exact ⟨ret_bool ((unhide HES).trans (unhide HD)).symm, unhide HBW⟩
/-- What SameState answers. -/
def sameB (tm vo : Int) (x : List En) (tm2 vo2 : Int) (y : List En) : Bool := stateB tm vo x && (stateB tm2 vo2 y && eqSt tm vo x tm2 vo2 y)
def sameC (tm vo : Int) (x : List En) (tm2 vo2 : Int) (y : List En) : Int := if stateB tm vo x && stateB tm2 vo2 y then 0 else 1
theorem same_ret {a b : Bool} {x y : Int} (h : a = b) (k : x = y) : Ending.returned (.tuple #[.bool a, .int .i64 x]) = .returned (.tuple #[.bool b, .int .i64 y]) := by rw [h, k]
set_option maxRecDepth 100000 in
set_option maxHeartbeats 1000000 in
theorem specSame_any (tm vo tm2 vo2 : Int) (u v : Value) (x y : List En) (w : World) (hx : Ens w u x) (hy : Ens w v y) (hlx : x.length ≤ 1048576 ∧ ∀ i, (x.getD i default).d.size ≤ 1048576) (hly : y.length ≤ 1048576 ∧ ∀ i, (y.getD i default).d.size ≤ 1048576) :
    Calls Try.prog 30 #[.agg #[.int .i64 tm, .int .i64 vo, u], .agg #[.int .i64 tm2, .int .i64 vo2, v]] w fun e w' => e = .returned (.tuple #[.bool (sameB tm vo x tm2 vo2 y), .int .i64 (sameC tm vo x tm2 vo2 y)]) ∧ Below w.heap.size w w' := by
  have HX := hide hx
  have HY := hide hy
  have HLX := hide hlx
  have HLY := hide hly
  obtain ⟨a, cap, rfl, hn, hm, hc⟩ := hx
  obtain ⟨a2, cap2, rfl, hn2, hm2, hc2⟩ := hy
  clear hc hc2 hn hm hn2 hm2 hlx hly
  have B0 := hide (((Below.refl w.heap.size w).alloc (Nat.le_refl _) (.cells #[.int .i64 tm, .int .i64 vo, .slice a x.length cap] 29)).alloc (by simp) (.cells #[.int .i64 tm2, .int .i64 vo2, .slice a2 y.length cap2] 29))
  have X1 := hide ((Blk.new w #[.int .i64 tm, .int .i64 vo, .slice a x.length cap] 29 w.heap.size rfl).alloc (.cells #[.int .i64 tm2, .int .i64 vo2, .slice a2 y.length cap2] 29))
  have X2 := hide (Blk.new (w.alloc (.cells #[.int .i64 tm, .int .i64 vo, .slice a x.length cap] 29)) #[.int .i64 tm2, .int .i64 vo2, .slice a2 y.length cap2] 29 (w.heap.size + 1) (by simp))
  go_enter Try.func30, Try.ntmps30
  go_wp2_with fail
  generalize (w.alloc (.cells #[.int .i64 tm, .int .i64 vo, .slice a x.length cap] 29)).alloc (.cells #[.int .i64 tm2, .int .i64 vo2, .slice a2 y.length cap2] 29) = w0 at *
  refine (specStateOK_any tm vo _ x w0 ((unhide HX).below (unhide B0)) (unhide HLX).2).mono ?_
  rintro e w1 ⟨rfl, hb1⟩
  have B1 := hide ((unhide B0).trans (hb1.mono (unhide B0).size))
  have Y1 := hide ((unhide X1).below hb1)
  have Y2 := hide ((unhide X2).below hb1)
  clear hb1 X1 X2 B0
  have e0 := (unhide Y2).cell 0 rfl
  have e1 := (unhide Y2).cell 1 rfl
  have e2 := (unhide Y2).cell 2 rfl
  cases hs1 : stateB tm vo x
  · have HD := hide (show sameB tm vo x tm2 vo2 y = false by simp [sameB, hs1])
    have HE := hide (show sameC tm vo x tm2 vo2 y = 1 by simp [sameC, hs1])
    go_wp2_with fail
    go_ret2
    exact ⟨same_ret (unhide HD).symm (unhide HE).symm, unhide B1⟩
  go_wp2_with fail
  refine (specStateOK_any tm2 vo2 _ y w1 ((unhide HY).below (unhide B1)) (unhide HLY).2).mono ?_
  rintro e w2 ⟨rfl, hb2⟩
  have B2 := hide ((unhide B1).trans (hb2.mono (unhide B1).size))
  have Z1 := hide ((unhide Y1).below hb2)
  have Z2 := hide ((unhide Y2).below hb2)
  clear hb2 Y1 Y2 B1 e0 e1 e2
  have f0 := (unhide Z2).cell 0 rfl
  have f1 := (unhide Z2).cell 1 rfl
  have f2 := (unhide Z2).cell 2 rfl
  have g0 := (unhide Z1).cell 0 rfl
  have g1 := (unhide Z1).cell 1 rfl
  have g2 := (unhide Z1).cell 2 rfl
  cases hs2 : stateB tm2 vo2 y
  · have HD := hide (show sameB tm vo x tm2 vo2 y = false by simp [sameB, hs2])
    have HE := hide (show sameC tm vo x tm2 vo2 y = 1 by simp [sameC, hs2])
    go_wp2_with fail
    go_ret2
    exact ⟨same_ret (unhide HD).symm (unhide HE).symm, unhide B2⟩
  go_wp2_with fail
  refine (l05Same_any tm vo tm2 vo2 _ _ x y w2 ((unhide HX).below (unhide B2)) ((unhide HY).below (unhide B2)) (unhide HLX).1 (unhide HLY).1).mono ?_
  rintro e w3 ⟨rfl, hb3⟩
  have B3 := hide ((unhide B2).trans (hb3.mono (unhide B2).size))
  have HD := hide (show sameB tm vo x tm2 vo2 y = eqSt tm vo x tm2 vo2 y by simp [sameB, hs1, hs2])
  have HE := hide (show sameC tm vo x tm2 vo2 y = 0 by simp [sameC, hs1, hs2])
  clear hb3
  generalize eqSt tm vo x tm2 vo2 y = r at *
  go_wp2_with fail
  go_ret2
  exact ⟨same_ret (unhide HD).symm (unhide HE).symm, unhide B3⟩
set_option maxRecDepth 100000 in
set_option maxHeartbeats 1000000 in
theorem implSame_any (tm vo tm2 vo2 : Int) (u v : Value) (x y : List En) (w : World) (hx : Ens w u x) (hy : Ens w v y) (hlx : x.length ≤ 1048576 ∧ ∀ i, (x.getD i default).d.size ≤ 1048576) (hly : y.length ≤ 1048576 ∧ ∀ i, (y.getD i default).d.size ≤ 1048576) :
    Calls Try.prog 31 #[.agg #[.int .i64 tm, .int .i64 vo, u], .agg #[.int .i64 tm2, .int .i64 vo2, v]] w fun e w' => e = .returned (.tuple #[.bool (sameB tm vo x tm2 vo2 y), .int .i64 (sameC tm vo x tm2 vo2 y)]) ∧ Below w.heap.size w w' := by
  have HX := hide hx
  have HY := hide hy
  have HLX := hide hlx
  have HLY := hide hly
  obtain ⟨a, cap, rfl, hn, hm, hc⟩ := hx
  obtain ⟨a2, cap2, rfl, hn2, hm2, hc2⟩ := hy
  clear hc hc2 hn hm hn2 hm2 hlx hly
  have B0 := hide (((Below.refl w.heap.size w).alloc (Nat.le_refl _) (.cells #[.int .i64 tm, .int .i64 vo, .slice a x.length cap] 29)).alloc (by simp) (.cells #[.int .i64 tm2, .int .i64 vo2, .slice a2 y.length cap2] 29))
  have X1 := hide ((Blk.new w #[.int .i64 tm, .int .i64 vo, .slice a x.length cap] 29 w.heap.size rfl).alloc (.cells #[.int .i64 tm2, .int .i64 vo2, .slice a2 y.length cap2] 29))
  have X2 := hide (Blk.new (w.alloc (.cells #[.int .i64 tm, .int .i64 vo, .slice a x.length cap] 29)) #[.int .i64 tm2, .int .i64 vo2, .slice a2 y.length cap2] 29 (w.heap.size + 1) (by simp))
  go_enter Try.func31, Try.ntmps31
  go_wp2_with fail
  generalize (w.alloc (.cells #[.int .i64 tm, .int .i64 vo, .slice a x.length cap] 29)).alloc (.cells #[.int .i64 tm2, .int .i64 vo2, .slice a2 y.length cap2] 29) = w0 at *
  refine (implStateOK_any tm vo _ x w0 ((unhide HX).below (unhide B0)) (unhide HLX).2).mono ?_
  rintro e w1 ⟨rfl, hb1⟩
  have B1 := hide ((unhide B0).trans (hb1.mono (unhide B0).size))
  have Y1 := hide ((unhide X1).below hb1)
  have Y2 := hide ((unhide X2).below hb1)
  clear hb1 X1 X2 B0
  have e0 := (unhide Y2).cell 0 rfl
  have e1 := (unhide Y2).cell 1 rfl
  have e2 := (unhide Y2).cell 2 rfl
  cases hs1 : stateB tm vo x
  · have HD := hide (show sameB tm vo x tm2 vo2 y = false by simp [sameB, hs1])
    have HE := hide (show sameC tm vo x tm2 vo2 y = 1 by simp [sameC, hs1])
    go_wp2_with fail
    go_ret2
    exact ⟨same_ret (unhide HD).symm (unhide HE).symm, unhide B1⟩
  go_wp2_with fail
  refine (implStateOK_any tm2 vo2 _ y w1 ((unhide HY).below (unhide B1)) (unhide HLY).2).mono ?_
  rintro e w2 ⟨rfl, hb2⟩
  have B2 := hide ((unhide B1).trans (hb2.mono (unhide B1).size))
  have Z1 := hide ((unhide Y1).below hb2)
  have Z2 := hide ((unhide Y2).below hb2)
  clear hb2 Y1 Y2 B1 e0 e1 e2
  have f0 := (unhide Z2).cell 0 rfl
  have f1 := (unhide Z2).cell 1 rfl
  have f2 := (unhide Z2).cell 2 rfl
  have g0 := (unhide Z1).cell 0 rfl
  have g1 := (unhide Z1).cell 1 rfl
  have g2 := (unhide Z1).cell 2 rfl
  cases hs2 : stateB tm2 vo2 y
  · have HD := hide (show sameB tm vo x tm2 vo2 y = false by simp [sameB, hs2])
    have HE := hide (show sameC tm vo x tm2 vo2 y = 1 by simp [sameC, hs2])
    go_wp2_with fail
    go_ret2
    exact ⟨same_ret (unhide HD).symm (unhide HE).symm, unhide B2⟩
  have HE := hide (show sameC tm vo x tm2 vo2 y = 0 by simp [sameC, hs1, hs2])
  have HD := hide (show sameB tm vo x tm2 vo2 y = eqSt tm vo x tm2 vo2 y by simp [sameB, hs1, hs2])
  by_cases h1 : tm = tm2
  case neg =>
    have HF := hide (eqSt_1 (vo := vo) (vo2 := vo2) (x := x) (y := y) h1)
    have h1b : (tm == tm2) = false := by rw [beq_eq_false_iff_ne]; exact h1
    go_wp2_with fail
    go_ret2
    exact ⟨same_ret ((unhide HD).trans (unhide HF)).symm (unhide HE).symm, unhide B2⟩
  by_cases h2 : vo = vo2
  case neg =>
    have HF := hide (eqSt_2 (tm := tm) (tm2 := tm2) (x := x) (y := y) h2)
    have h2b : (vo == vo2) = false := by rw [beq_eq_false_iff_ne]; exact h2
    have h1b : (tm == tm2) = true := by rw [beq_iff_eq]; exact h1
    go_wp2_with fail
    go_ret2
    exact ⟨same_ret ((unhide HD).trans (unhide HF)).symm (unhide HE).symm, unhide B2⟩
  have HES := hide (eqSt_3 (x := x) (y := y) h1 h2)
  have h1b : (tm == tm2) = true := by rw [beq_iff_eq]; exact h1
  have h2b : (vo == vo2) = true := by rw [beq_iff_eq]; exact h2
  clear h1 h2
  go_wp2_with fail
  refine (equal_any _ _ x y w2 ((unhide HX).below (unhide B2)) ((unhide HY).below (unhide B2)) (unhide HLX).1 (unhide HLY).1).mono ?_
  rintro e w3 ⟨rfl, hb3⟩
  have B3 := hide ((unhide B2).trans (hb3.mono (unhide B2).size))
  clear hb3
  generalize eqEns x y = r at *
  go_wp2_with fail
  go_ret2
  exact ⟨same_ret ((unhide HD).trans (unhide HES)).symm (unhide HE).symm, unhide B3⟩
end Go.Proofs.Ytlicgahjdgipkal
