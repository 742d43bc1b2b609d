/- laws.eqMessage, laws.eqMessageS, walked. -/
import Derived.Test.YtljolldacpkeeaaMgJ
import Derived.Test.YtljolldacpkeeaaHaa
import Derived.Deep.RegionHeld3
namespace Go.Proofs.Ytljolldacpkeeaa
open Go.ChangeShapes Go.WideShapes Go.ChangeAt Go.RowKit Go.Deep
set_option linter.unusedVariables false
set_option linter.unusedSimpArgs false

set_option maxRecDepth 100000 in
set_option maxHeartbeats 4000000 in
theorem eqMessage_any (kd fr dt tm ix lt cm : Int) (ok : Bool) (es : List En) (ea eb : Option Addr) (ec ed : Nat) (w : World) (h : Ens w (.slice ea es.length ec) es) (h' : Ens w (.slice eb es.length ed) es) (hl : es.length ≤ 1048576) :
    Calls Try.prog 32 #[.agg #[.int .i64 kd, .int .i64 fr, .int .i64 dt, .int .i64 tm, .int .i64 ix, .int .i64 lt, .int .i64 cm, .slice ea es.length ec, .bool ok], .agg #[.int .i64 kd, .int .i64 fr, .int .i64 dt, .int .i64 tm, .int .i64 ix, .int .i64 lt, .int .i64 cm, .slice eb es.length ed, .bool ok]] w fun e w' => e = .returned (.bool true) ∧ Below w.heap.size w w' := by
  have BB := ((Below.refl w.heap.size w).alloc (Nat.le_refl _) (.cells #[.int .i64 kd, .int .i64 fr, .int .i64 dt, .int .i64 tm, .int .i64 ix, .int .i64 lt, .int .i64 cm, .slice ea es.length ec, .bool ok] 59)).alloc (by simp) (.cells #[.int .i64 kd, .int .i64 fr, .int .i64 dt, .int .i64 tm, .int .i64 ix, .int .i64 lt, .int .i64 cm, .slice eb es.length ed, .bool ok] 59)
  have B0 := hide BB
  have X1 := hide ((Blk.new w #[.int .i64 kd, .int .i64 fr, .int .i64 dt, .int .i64 tm, .int .i64 ix, .int .i64 lt, .int .i64 cm, .slice ea es.length ec, .bool ok] 59 w.heap.size rfl).alloc (.cells #[.int .i64 kd, .int .i64 fr, .int .i64 dt, .int .i64 tm, .int .i64 ix, .int .i64 lt, .int .i64 cm, .slice eb es.length ed, .bool ok] 59))
  have X2 := hide (Blk.new (w.alloc (.cells #[.int .i64 kd, .int .i64 fr, .int .i64 dt, .int .i64 tm, .int .i64 ix, .int .i64 lt, .int .i64 cm, .slice ea es.length ec, .bool ok] 59)) #[.int .i64 kd, .int .i64 fr, .int .i64 dt, .int .i64 tm, .int .i64 ix, .int .i64 lt, .int .i64 cm, .slice eb es.length ed, .bool ok] 59 (w.heap.size + 1) (by simp))
  have HE := hide (eqEntryS_any _ _ es _ (h.below BB) (h'.below BB) hl)
  clear h h' BB
  go_enter Try.func32, Try.ntmps32
  have e0 := (unhide X1).cell 0 rfl
  have e1 := (unhide X1).cell 1 rfl
  have e2 := (unhide X1).cell 2 rfl
  have e3 := (unhide X1).cell 3 rfl
  have e4 := (unhide X1).cell 4 rfl
  have e5 := (unhide X1).cell 5 rfl
  have e6 := (unhide X1).cell 6 rfl
  have e7 := (unhide X1).cell 7 rfl
  have f0 := (unhide X2).cell 0 rfl
  have f1 := (unhide X2).cell 1 rfl
  have f2 := (unhide X2).cell 2 rfl
  have f3 := (unhide X2).cell 3 rfl
  have f4 := (unhide X2).cell 4 rfl
  have f5 := (unhide X2).cell 5 rfl
  have f6 := (unhide X2).cell 6 rfl
  have f7 := (unhide X2).cell 7 rfl
  go_wp2_with fail
  generalize (w.alloc (.cells #[.int .i64 kd, .int .i64 fr, .int .i64 dt, .int .i64 tm, .int .i64 ix, .int .i64 lt, .int .i64 cm, .slice ea es.length ec, .bool ok] 59)).alloc (.cells #[.int .i64 kd, .int .i64 fr, .int .i64 dt, .int .i64 tm, .int .i64 ix, .int .i64 lt, .int .i64 cm, .slice eb es.length ed, .bool ok] 59) = w0 at *
  refine (unhide HE).mono ?_
  rintro e w1 ⟨rfl, hb⟩
  have B1 := hide ((unhide B0).trans (hb.mono (unhide B0).size))
  have e8 := ((unhide X1).below hb).cell 8 rfl
  have f8 := ((unhide X2).below hb).cell 8 rfl
  clear hb B0 X1 X2 HE e0 e1 e2 e3 e4 e5 e6 e7 f0 f1 f2 f3 f4 f5 f6 f7
  cases ok
  all_goals
    go_wp2_with fail
    go_ret
    exact ⟨rfl, unhide B1⟩
/-- Two messages say the same. -/
def SameM (x y : MV) : Prop := x.kd = y.kd ∧ x.fr = y.fr ∧ x.dt = y.dt ∧ x.tm = y.tm ∧ x.ix = y.ix ∧ x.lt = y.lt ∧ x.cm = y.cm ∧ x.ok = y.ok ∧ x.es = y.es
theorem at_splitM {α : Type} (l : List α) (j : Nat) (hj : j < l.length) : ∃ l1 x l2, l = l1 ++ x :: l2 ∧ l1.length = j := by
  refine ⟨l.take j, l[j], l.drop (j + 1), ?_, by rw [List.length_take]; omega⟩
  rw [List.getElem_cons_drop, List.take_append_drop]
theorem MV.ens {B : Nat} {w : World} {x : MV} (h : ∀ p ∈ mgSubs x, OwnSub B w p.1 p.2) : Ens w x.ev x.es := OwnE.ens (h (x.ev, .E x.es) (by simp [mgSubs]))
set_option maxRecDepth 100000 in
set_option maxHeartbeats 4000000 in
theorem eqMessageS_any (B C : Nat) (u v : Value) (n : Nat) (l m : List MV) (w : World) (h : Ns mgS B w u n l) (h' : Ns mgS C w v n m) (hn : n ≤ 8) (hs : ∀ (i : Nat) (x y : MV), l[i]? = some x → m[i]? = some y → SameM x y) (hz : ∀ x ∈ l, x.es.length ≤ 1048576) :
    Calls Try.prog 10 #[u, v] w fun e w' => e = .returned (.bool true) ∧ Below w.heap.size w w' := by
  by_cases hn0 : n = 0
  · subst hn0
    rcases own_shape h.row with ⟨rfl, _⟩ | ⟨g, cap, rfl, _⟩ <;> rcases own_shape h'.row with ⟨rfl, _⟩ | ⟨g', cap', rfl, _⟩
    all_goals
      clear h h' hs hz
      go_enter Try.func10, Try.ntmps10
      go_wp2_with fail
      go_loop [5] (fun i => i = .int .i64 0) (fun _ => 0)
      case atStart => rfl
      case round =>
        obtain rfl := hrel
        go_wp2_with fail
        go_ret
        exact ⟨rfl, Below.refl _ _⟩
  rcases own_shape h.row with ⟨rfl, h0⟩ | ⟨g, cap, rfl, hB, hlt0, hnn, hm⟩
  · omega
  rcases own_shape h'.row with ⟨rfl, h0⟩ | ⟨g', cap', rfl, hB', hlt0', hnn', hm'⟩
  · omega
  have HN := hide h
  have HN' := hide h'
  have HS := hide hs
  have HZ := hide hz
  clear h h' hs hz
  go_enter Try.func10, Try.ntmps10
  go_wp2_with fail
  go_loopw [5] (fun i wr => ∃ j : Nat, j ≤ n ∧ i = .int .i64 (j : Int) ∧ Hid (Below w.heap.size w wr)) (fun i _ => n - (intOf i).toNat)
  case atStart => exact ⟨0, Nat.zero_le _, rfl, hide (Below.refl _ _)⟩
  case round =>
    obtain ⟨j, hj, rfl, B0⟩ := hrel
    by_cases hlt : j < n
    case neg =>
      obtain rfl : j = n := by omega
      go_wp2_with fail
      go_ret
      exact ⟨rfl, unhide B0⟩
    obtain ⟨l1, x, l2, hl, hl1⟩ := at_splitM l j (by have := (unhide HN).ln; omega)
    obtain ⟨m1, y, m2, hmm, hm1⟩ := at_splitM m j (by have := (unhide HN').ln; omega)
    have hsm := unhide HS j x y (by rw [hl, List.getElem?_append_right (by omega), hl1, Nat.sub_self]; rfl) (by rw [hmm, List.getElem?_append_right (by omega), hm1, Nat.sub_self]; rfl)
    have hzx := unhide HZ x (by rw [hl]; simp)
    have hN := unhide HN
    have hN' := unhide HN'
    rw [hl] at hN
    rw [hmm] at hN'
    have r1 := (MV.ens (fun p hp => hN.sub p (List.mem_flatMap.2 ⟨x, by simp, hp⟩))).below (unhide B0)
    have r2 := (MV.ens (fun p hp => hN'.sub p (List.mem_flatMap.2 ⟨y, by simp, hp⟩))).below (unhide B0)
    obtain ⟨kd, fr, dt, tm, ix, lt, cm, ok, es, ev⟩ := x
    obtain ⟨kd2, fr2, dt2, tm2, ix2, lt2, cm2, ok2, es2, ev2⟩ := y
    obtain ⟨rfl, rfl, rfl, rfl, rfl, rfl, rfl, rfl, rfl⟩ := hsm
    dsimp only at r1 r2 hzx
    obtain ⟨ea, ec, rfl⟩ := r1.shape
    obtain ⟨eb, ed, rfl⟩ := r2.shape
    dsimp only at *
    have c0 : wr.cell? ⟨g, j * 9, none⟩ = some (.int .i64 kd) := ((unhide B0).cell (p := ⟨g, j * 9, none⟩) hlt0).trans (Ns.cell hN j 0 (j * 9) hl1 (by decide) rfl).1
    have c1 : wr.cell? ⟨g, j * 9 + 1, none⟩ = some (.int .i64 fr) := ((unhide B0).cell (p := ⟨g, j * 9 + 1, none⟩) hlt0).trans (Ns.cell hN j 1 (j * 9 + 1) hl1 (by decide) rfl).1
    have c2 : wr.cell? ⟨g, j * 9 + 2, none⟩ = some (.int .i64 dt) := ((unhide B0).cell (p := ⟨g, j * 9 + 2, none⟩) hlt0).trans (Ns.cell hN j 2 (j * 9 + 2) hl1 (by decide) rfl).1
    have c3 : wr.cell? ⟨g, j * 9 + 3, none⟩ = some (.int .i64 tm) := ((unhide B0).cell (p := ⟨g, j * 9 + 3, none⟩) hlt0).trans (Ns.cell hN j 3 (j * 9 + 3) hl1 (by decide) rfl).1
    have c4 : wr.cell? ⟨g, j * 9 + 4, none⟩ = some (.int .i64 ix) := ((unhide B0).cell (p := ⟨g, j * 9 + 4, none⟩) hlt0).trans (Ns.cell hN j 4 (j * 9 + 4) hl1 (by decide) rfl).1
    have c5 : wr.cell? ⟨g, j * 9 + 5, none⟩ = some (.int .i64 lt) := ((unhide B0).cell (p := ⟨g, j * 9 + 5, none⟩) hlt0).trans (Ns.cell hN j 5 (j * 9 + 5) hl1 (by decide) rfl).1
    have c6 : wr.cell? ⟨g, j * 9 + 6, none⟩ = some (.int .i64 cm) := ((unhide B0).cell (p := ⟨g, j * 9 + 6, none⟩) hlt0).trans (Ns.cell hN j 6 (j * 9 + 6) hl1 (by decide) rfl).1
    have c7 : wr.cell? ⟨g, j * 9 + 7, none⟩ = some (.slice ea es.length ec) := ((unhide B0).cell (p := ⟨g, j * 9 + 7, none⟩) hlt0).trans (Ns.cell hN j 7 (j * 9 + 7) hl1 (by decide) rfl).1
    have c8 : wr.cell? ⟨g, j * 9 + 8, none⟩ = some (.bool ok) := ((unhide B0).cell (p := ⟨g, j * 9 + 8, none⟩) hlt0).trans (Ns.cell hN j 8 (j * 9 + 8) hl1 (by decide) rfl).1
    have d0 : wr.cell? ⟨g', j * 9, none⟩ = some (.int .i64 kd) := ((unhide B0).cell (p := ⟨g', j * 9, none⟩) hlt0').trans (Ns.cell hN' j 0 (j * 9) hm1 (by decide) rfl).1
    have d1 : wr.cell? ⟨g', j * 9 + 1, none⟩ = some (.int .i64 fr) := ((unhide B0).cell (p := ⟨g', j * 9 + 1, none⟩) hlt0').trans (Ns.cell hN' j 1 (j * 9 + 1) hm1 (by decide) rfl).1
    have d2 : wr.cell? ⟨g', j * 9 + 2, none⟩ = some (.int .i64 dt) := ((unhide B0).cell (p := ⟨g', j * 9 + 2, none⟩) hlt0').trans (Ns.cell hN' j 2 (j * 9 + 2) hm1 (by decide) rfl).1
    have d3 : wr.cell? ⟨g', j * 9 + 3, none⟩ = some (.int .i64 tm) := ((unhide B0).cell (p := ⟨g', j * 9 + 3, none⟩) hlt0').trans (Ns.cell hN' j 3 (j * 9 + 3) hm1 (by decide) rfl).1
    have d4 : wr.cell? ⟨g', j * 9 + 4, none⟩ = some (.int .i64 ix) := ((unhide B0).cell (p := ⟨g', j * 9 + 4, none⟩) hlt0').trans (Ns.cell hN' j 4 (j * 9 + 4) hm1 (by decide) rfl).1
    have d5 : wr.cell? ⟨g', j * 9 + 5, none⟩ = some (.int .i64 lt) := ((unhide B0).cell (p := ⟨g', j * 9 + 5, none⟩) hlt0').trans (Ns.cell hN' j 5 (j * 9 + 5) hm1 (by decide) rfl).1
    have d6 : wr.cell? ⟨g', j * 9 + 6, none⟩ = some (.int .i64 cm) := ((unhide B0).cell (p := ⟨g', j * 9 + 6, none⟩) hlt0').trans (Ns.cell hN' j 6 (j * 9 + 6) hm1 (by decide) rfl).1
    have d7 : wr.cell? ⟨g', j * 9 + 7, none⟩ = some (.slice eb es.length ed) := ((unhide B0).cell (p := ⟨g', j * 9 + 7, none⟩) hlt0').trans (Ns.cell hN' j 7 (j * 9 + 7) hm1 (by decide) rfl).1
    have d8 : wr.cell? ⟨g', j * 9 + 8, none⟩ = some (.bool ok) := ((unhide B0).cell (p := ⟨g', j * 9 + 8, none⟩) hlt0').trans (Ns.cell hN' j 8 (j * 9 + 8) hm1 (by decide) rfl).1
    have HC := hide (eqMessage_any kd fr dt tm ix lt cm ok es ea eb ec ed wr.drew (r1.below (below_drewN (Below.refl _ _) 1)) (r2.below (below_drewN (Below.refl _ _) 1)) hzx)
    have p0 : (0 : Int) ≤ (j : Int) := by omega
    have p1 : (j : Int) < (n : Int) := by omega
    clear r1 r2 hN hN' hl hmm hl1 hm1 hzx
    have hgl : g < wr.drew.heap.size := Nat.lt_of_lt_of_le hlt0 (unhide B0).size
    have hgl' : g' < wr.drew.heap.size := Nat.lt_of_lt_of_le hlt0' (unhide B0).size
    go_upto_region 6 with fail
    refine wp_region_noPanic ?_
    refine wp_region_held_drew (S := (fun wx => wx.cell? ⟨g, j * 9, none⟩ = some (.int .i64 kd) ∧ wx.cell? ⟨g, j * 9 + 1, none⟩ = some (.int .i64 fr) ∧ wx.cell? ⟨g, j * 9 + 2, none⟩ = some (.int .i64 dt) ∧ wx.cell? ⟨g, j * 9 + 3, none⟩ = some (.int .i64 tm) ∧ wx.cell? ⟨g, j * 9 + 4, none⟩ = some (.int .i64 ix) ∧ wx.cell? ⟨g, j * 9 + 5, none⟩ = some (.int .i64 lt) ∧ wx.cell? ⟨g, j * 9 + 6, none⟩ = some (.int .i64 cm) ∧ wx.cell? ⟨g, j * 9 + 7, none⟩ = some (.slice ea es.length ec) ∧ wx.cell? ⟨g, j * 9 + 8, none⟩ = some (.bool ok) ∧ wx.cell? ⟨g', j * 9, none⟩ = some (.int .i64 kd) ∧ wx.cell? ⟨g', j * 9 + 1, none⟩ = some (.int .i64 fr) ∧ wx.cell? ⟨g', j * 9 + 2, none⟩ = some (.int .i64 dt) ∧ wx.cell? ⟨g', j * 9 + 3, none⟩ = some (.int .i64 tm) ∧ wx.cell? ⟨g', j * 9 + 4, none⟩ = some (.int .i64 ix) ∧ wx.cell? ⟨g', j * 9 + 5, none⟩ = some (.int .i64 lt) ∧ wx.cell? ⟨g', j * 9 + 6, none⟩ = some (.int .i64 cm) ∧ wx.cell? ⟨g', j * 9 + 7, none⟩ = some (.slice eb es.length ed) ∧ wx.cell? ⟨g', j * 9 + 8, none⟩ = some (.bool ok))) (by kernel_rfl) ?_ (fun hHeld => ?_)
    · exact ⟨c0, c1, c2, c3, c4, c5, c6, c7, c8, d0, d1, d2, d3, d4, d5, d6, d7, d8⟩
    refine wpAnyH_take (i := 0) (oi := _) (v := ?_) rfl (by kernel_rfl) (by kernel_rfl) (by kernel_rfl) (fun _ _ _ h => h) (Or.inl ⟨by rfl, ?_⟩) (by assumption) ?_
    rotate_left 1
    · (intro wq hSw; (try dsimp only at hSw); (try simp only [List.getElem_toArray, List.getElem_cons_succ, List.getElem_cons_zero]); go_simp; try with_reducible rfl)
    (try simp only [Act.put, List.getElem_toArray, List.getElem_cons_succ, List.getElem_cons_zero, List.setIfInBounds_toArray, List.set_cons_zero, List.set_cons_succ])
    refine wpAnyH_take (i := 1) (oi := _) (v := ?_) rfl (by kernel_rfl) (by kernel_rfl) (by kernel_rfl) (fun _ _ _ h => h) (Or.inl ⟨by rfl, ?_⟩) (by assumption) ?_
    rotate_left 1
    · (intro wq hSw; (try dsimp only at hSw); (try simp only [List.getElem_toArray, List.getElem_cons_succ, List.getElem_cons_zero]); go_simp; try with_reducible rfl)
    (try simp only [Act.put, List.getElem_toArray, List.getElem_cons_succ, List.getElem_cons_zero, List.setIfInBounds_toArray, List.set_cons_zero, List.set_cons_succ])
    refine wpAnyH_take (i := 2) (oi := _) (v := ?_) rfl (by kernel_rfl) (by kernel_rfl) (by kernel_rfl) (fun _ _ _ h => h) (Or.inl ⟨by rfl, ?_⟩) (by assumption) ?_
    rotate_left 1
    · (intro wq hSw; (try dsimp only at hSw); (try simp only [List.getElem_toArray, List.getElem_cons_succ, List.getElem_cons_zero]); go_simp; try with_reducible rfl)
    (try simp only [Act.put, List.getElem_toArray, List.getElem_cons_succ, List.getElem_cons_zero, List.setIfInBounds_toArray, List.set_cons_zero, List.set_cons_succ])
    refine wpAnyH_take (i := 3) (oi := _) (v := ?_) rfl (by kernel_rfl) (by kernel_rfl) (by kernel_rfl) (fun _ _ _ h => h) (Or.inl ⟨by rfl, ?_⟩) (by assumption) ?_
    rotate_left 1
    · (intro wq hSw; (try dsimp only at hSw); (try simp only [List.getElem_toArray, List.getElem_cons_succ, List.getElem_cons_zero]); go_simp; try with_reducible rfl)
    (try simp only [Act.put, List.getElem_toArray, List.getElem_cons_succ, List.getElem_cons_zero, List.setIfInBounds_toArray, List.set_cons_zero, List.set_cons_succ])
    refine wpAnyH_take (i := 4) (oi := _) (v := ?_) rfl (by kernel_rfl) (by kernel_rfl) (by kernel_rfl) (fun _ _ _ h => h) (Or.inl ⟨by rfl, ?_⟩) (by assumption) ?_
    rotate_left 1
    · (intro wq hSw; (try dsimp only at hSw); (try simp only [List.getElem_toArray, List.getElem_cons_succ, List.getElem_cons_zero]); go_simp; try with_reducible rfl)
    (try simp only [Act.put, List.getElem_toArray, List.getElem_cons_succ, List.getElem_cons_zero, List.setIfInBounds_toArray, List.set_cons_zero, List.set_cons_succ])
    refine wpAnyH_take (i := 5) (oi := _) (v := ?_) rfl (by kernel_rfl) (by kernel_rfl) (by kernel_rfl) (fun _ _ _ h => h) (Or.inl ⟨by rfl, ?_⟩) (by assumption) ?_
    rotate_left 1
    · (intro wq hSw; (try dsimp only at hSw); (try simp only [List.getElem_toArray, List.getElem_cons_succ, List.getElem_cons_zero]); go_simp; try with_reducible rfl)
    (try simp only [Act.put, List.getElem_toArray, List.getElem_cons_succ, List.getElem_cons_zero, List.setIfInBounds_toArray, List.set_cons_zero, List.set_cons_succ])
    refine wpAnyH_take (i := 6) (oi := _) (v := ?_) rfl (by kernel_rfl) (by kernel_rfl) (by kernel_rfl) (fun _ _ _ h => h) (Or.inl ⟨by rfl, ?_⟩) (by assumption) ?_
    rotate_left 1
    · (intro wq hSw; (try dsimp only at hSw); (try simp only [List.getElem_toArray, List.getElem_cons_succ, List.getElem_cons_zero]); go_simp; try with_reducible rfl)
    (try simp only [Act.put, List.getElem_toArray, List.getElem_cons_succ, List.getElem_cons_zero, List.setIfInBounds_toArray, List.set_cons_zero, List.set_cons_succ])
    refine wpAnyH_take (i := 7) (oi := _) (v := ?_) rfl (by kernel_rfl) (by kernel_rfl) (by kernel_rfl) (fun _ _ _ h => h) (Or.inl ⟨by rfl, ?_⟩) (by assumption) ?_
    rotate_left 1
    · (intro wq hSw; (try dsimp only at hSw); (try simp only [List.getElem_toArray, List.getElem_cons_succ, List.getElem_cons_zero]); go_simp; try with_reducible rfl)
    (try simp only [Act.put, List.getElem_toArray, List.getElem_cons_succ, List.getElem_cons_zero, List.setIfInBounds_toArray, List.set_cons_zero, List.set_cons_succ])
    refine wpAnyH_ready (rs := [8]) (by kernel_rfl) (by simp) ?_
    refine AllReadyH.cons (o := _) rfl (fun K hK => ?_) AllReadyH.nil
    go_simp
    refine (unhide HC).mono ?_
    rintro e w2 ⟨rfl, hb⟩
    have B1 := hide ((below_drewN (unhide B0) 1).trans (hb.mono (unhide B0).size))
    go_wp2_with fail
    refine hK.out _ _ ?_ (fun hHeld => ?_)
    · exact ⟨(hb.cell (p := ⟨g, j * 9, none⟩) hgl).trans c0, (hb.cell (p := ⟨g, j * 9 + 1, none⟩) hgl).trans c1, (hb.cell (p := ⟨g, j * 9 + 2, none⟩) hgl).trans c2, (hb.cell (p := ⟨g, j * 9 + 3, none⟩) hgl).trans c3, (hb.cell (p := ⟨g, j * 9 + 4, none⟩) hgl).trans c4, (hb.cell (p := ⟨g, j * 9 + 5, none⟩) hgl).trans c5, (hb.cell (p := ⟨g, j * 9 + 6, none⟩) hgl).trans c6, (hb.cell (p := ⟨g, j * 9 + 7, none⟩) hgl).trans c7, (hb.cell (p := ⟨g, j * 9 + 8, none⟩) hgl).trans c8, (hb.cell (p := ⟨g', j * 9, none⟩) hgl').trans d0, (hb.cell (p := ⟨g', j * 9 + 1, none⟩) hgl').trans d1, (hb.cell (p := ⟨g', j * 9 + 2, none⟩) hgl').trans d2, (hb.cell (p := ⟨g', j * 9 + 3, none⟩) hgl').trans d3, (hb.cell (p := ⟨g', j * 9 + 4, none⟩) hgl').trans d4, (hb.cell (p := ⟨g', j * 9 + 5, none⟩) hgl').trans d5, (hb.cell (p := ⟨g', j * 9 + 6, none⟩) hgl').trans d6, (hb.cell (p := ⟨g', j * 9 + 7, none⟩) hgl').trans d7, (hb.cell (p := ⟨g', j * 9 + 8, none⟩) hgl').trans d8⟩
    clear hK K
    (try simp only [Act.put, List.getElem_toArray, List.getElem_cons_succ, List.getElem_cons_zero, List.setIfInBounds_toArray, List.set_cons_zero, List.set_cons_succ])
    refine wpAnyH_take (i := 9) (oi := _) (v := ?_) rfl (by kernel_rfl) (by kernel_rfl) (by kernel_rfl) (fun _ _ _ h => h) (Or.inl ⟨by rfl, ?_⟩) (by assumption) ?_
    rotate_left 1
    · (intro wq hSw; (try dsimp only at hSw); (try simp only [List.getElem_toArray, List.getElem_cons_succ, List.getElem_cons_zero]); go_simp; try with_reducible rfl)
    (try simp only [Act.put, List.getElem_toArray, List.getElem_cons_succ, List.getElem_cons_zero, List.setIfInBounds_toArray, List.set_cons_zero, List.set_cons_succ])
    refine wpAnyH_done (by kernel_rfl) (NoPanic.normal ?_) _
    clear hb HC B0 c0 d0 c1 d1 c2 d2 c3 d3 c4 d4 c5 d5 c6 d6 c7 d7 c8 d8
    go_wp2_with fail
    refine ⟨⟨j + 1, by omega, by go_num, B1⟩, ?_⟩
    simp [intOf]; omega
end Go.Proofs.Ytljolldacpkeeaa
