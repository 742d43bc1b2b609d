/- laws.eqNodeS; groups that have nodes alone: laws.eqGroup, markGroup, heldGroup, walked. -/
import Derived.Test.YtafbdjcoimopfaaNodJ
import Derived.Test.YtafbdjcoimopfaaNodE
import Derived.Deep.RegionHeld3
namespace Go.Proofs.Ytafbdjcoimopfaa
open Go.ChangeShapes Go.WideShapes Go.ChangeAt Go.RowKit Go.Deep
set_option linter.unusedVariables false
set_option linter.unusedSimpArgs false

/-- Two nodes say the same. -/
def SameV (x y : NV) : Prop := x.id = y.id ∧ x.tm = y.tm ∧ x.vo = y.vo ∧ x.ro = y.ro ∧ x.cm = y.cm ∧ x.el = y.el ∧ x.wt = y.wt ∧ x.up = y.up ∧ x.lg = y.lg ∧ x.st = y.st ∧ x.vs = y.vs ∧ x.nx = y.nx ∧ x.mt = y.mt
theorem at_split {α : Type} (l : List α) (j : Nat) (hj : j < l.length) : ∃ l1 x l2, l = l1 ++ x :: l2 ∧ l1.length = j := by
  refine ⟨l.take j, l[j], l.drop (j + 1), ?_, by rw [List.length_take]; omega⟩
  rw [List.getElem_cons_drop, List.take_append_drop]
theorem NV.noR {B : Nat} {w : World} {x : NV} (h : ∀ p ∈ nvSubs x, OwnSub B w p.1 p.2) : NoR w x.lv x.sv x.vv x.nv x.mv x.lg x.st x.vs x.nx x.mt :=
  ⟨OwnE.ens (h (x.lv, .E x.lg) (by simp [nvSubs])), OwnI.ints (h (x.sv, .I x.st) (by simp [nvSubs])), OwnI.ints (h (x.vv, .I x.vs) (by simp [nvSubs])), OwnI.ints (h (x.nv, .I x.nx) (by simp [nvSubs])), OwnI.ints (h (x.mv, .I x.mt) (by simp [nvSubs]))⟩
set_option maxRecDepth 100000 in
set_option maxHeartbeats 4000000 in
theorem eqNodeS_any (B C : Nat) (u v : Value) (n : Nat) (l m : List NV) (w : World) (h : Ns nvS B w u n l) (h' : Ns nvS C w v n m) (hn : n ≤ 8) (hs : ∀ (i : Nat) (x y : NV), l[i]? = some x → m[i]? = some y → SameV x y) (hz : ∀ x ∈ l, NoS x.lg x.st x.vs x.nx x.mt) :
    Calls Try.prog 42 #[u, v] w fun e w' => e = .returned (.bool true) ∧ Below w.heap.size w w' := by
  by_cases hn0 : n = 0
  · subst hn0
    rcases own_shape h.row with ⟨rfl, _⟩ | ⟨g, cap, rfl, _⟩ <;> rcases own_shape h'.row with ⟨rfl, _⟩ | ⟨g', cap', rfl, _⟩
    all_goals
      clear h h' hs hz
      go_enter Try.func42, Try.ntmps42
      go_wp2_with fail
      go_loop [5] (fun i => i = .int .i64 0) (fun _ => 0)
      case atStart => rfl
      case round =>
        obtain rfl := hrel
        go_wp2_with fail
        go_ret
        exact ⟨rfl, Below.refl _ _⟩
  rcases own_shape h.row with ⟨rfl, h0⟩ | ⟨g, cap, rfl, hB, hlt0, hnn, hm⟩
  · omega
  rcases own_shape h'.row with ⟨rfl, h0⟩ | ⟨g', cap', rfl, hB', hlt0', hnn', hm'⟩
  · omega
  have HN := hide h
  have HN' := hide h'
  have HS := hide hs
  have HZ := hide hz
  clear h h' hs hz
  go_enter Try.func42, Try.ntmps42
  go_wp2_with fail
  go_loopw [5] (fun i wr => ∃ j : Nat, j ≤ n ∧ i = .int .i64 (j : Int) ∧ Hid (Below w.heap.size w wr)) (fun i _ => n - (intOf i).toNat)
  case atStart => exact ⟨0, Nat.zero_le _, rfl, hide (Below.refl _ _)⟩
  case round =>
    obtain ⟨j, hj, rfl, B0⟩ := hrel
    by_cases hlt : j < n
    case neg =>
      obtain rfl : j = n := by omega
      go_wp2_with fail
      go_ret
      exact ⟨rfl, unhide B0⟩
    obtain ⟨l1, x, l2, hl, hl1⟩ := at_split l j (by have := (unhide HN).ln; omega)
    obtain ⟨m1, y, m2, hmm, hm1⟩ := at_split m j (by have := (unhide HN').ln; omega)
    have hsm := unhide HS j x y (by rw [hl, List.getElem?_append_right (by omega), hl1, Nat.sub_self]; rfl) (by rw [hmm, List.getElem?_append_right (by omega), hm1, Nat.sub_self]; rfl)
    have hzx := unhide HZ x (by rw [hl]; simp)
    have hN := unhide HN
    have hN' := unhide HN'
    rw [hl] at hN
    rw [hmm] at hN'
    have r1 := (NV.noR (fun p hp => hN.sub p (List.mem_flatMap.2 ⟨x, by simp, hp⟩))).below (unhide B0)
    have r2 := (NV.noR (fun p hp => hN'.sub p (List.mem_flatMap.2 ⟨y, by simp, hp⟩))).below (unhide B0)
    obtain ⟨id, tm, vo, ro, cm, el, wt, up, lg, st, vs, nx, mt, lv, sv, vv, nv, mv⟩ := x
    obtain ⟨id2, tm2, vo2, ro2, cm2, el2, wt2, up2, lg2, st2, vs2, nx2, mt2, lv2, sv2, vv2, nv2, mv2⟩ := y
    obtain ⟨rfl, rfl, rfl, rfl, rfl, rfl, rfl, rfl, rfl, rfl, rfl, rfl, rfl⟩ := hsm
    dsimp only at r1 r2 hzx
    obtain ⟨la, lc, rfl⟩ := r1.lg.shape
    obtain ⟨sa, sc, rfl⟩ := r1.st.shape
    obtain ⟨va, vc, rfl⟩ := r1.vs.shape
    obtain ⟨na, nc, rfl⟩ := r1.nx.shape
    obtain ⟨ma, mc, rfl⟩ := r1.mt.shape
    obtain ⟨la2, lc2, rfl⟩ := r2.lg.shape
    obtain ⟨sa2, sc2, rfl⟩ := r2.st.shape
    obtain ⟨va2, vc2, rfl⟩ := r2.vs.shape
    obtain ⟨na2, nc2, rfl⟩ := r2.nx.shape
    obtain ⟨ma2, mc2, rfl⟩ := r2.mt.shape
    dsimp only at *
    have c0 : wr.cell? ⟨g, j * 13, none⟩ = some (.int .i64 id) := ((unhide B0).cell (p := ⟨g, j * 13, none⟩) hlt0).trans (Ns.cell hN j 0 (j * 13) hl1 (by decide) rfl).1
    have c1 : wr.cell? ⟨g, j * 13 + 1, none⟩ = some (.int .i64 tm) := ((unhide B0).cell (p := ⟨g, j * 13 + 1, none⟩) hlt0).trans (Ns.cell hN j 1 (j * 13 + 1) hl1 (by decide) rfl).1
    have c2 : wr.cell? ⟨g, j * 13 + 2, none⟩ = some (.int .i64 vo) := ((unhide B0).cell (p := ⟨g, j * 13 + 2, none⟩) hlt0).trans (Ns.cell hN j 2 (j * 13 + 2) hl1 (by decide) rfl).1
    have c3 : wr.cell? ⟨g, j * 13 + 3, none⟩ = some (.slice la lg.length lc) := ((unhide B0).cell (p := ⟨g, j * 13 + 3, none⟩) hlt0).trans (Ns.cell hN j 3 (j * 13 + 3) hl1 (by decide) rfl).1
    have c4 : wr.cell? ⟨g, j * 13 + 4, none⟩ = some (.slice sa st.length sc) := ((unhide B0).cell (p := ⟨g, j * 13 + 4, none⟩) hlt0).trans (Ns.cell hN j 4 (j * 13 + 4) hl1 (by decide) rfl).1
    have c5 : wr.cell? ⟨g, j * 13 + 5, none⟩ = some (.int .i64 ro) := ((unhide B0).cell (p := ⟨g, j * 13 + 5, none⟩) hlt0).trans (Ns.cell hN j 5 (j * 13 + 5) hl1 (by decide) rfl).1
    have c6 : wr.cell? ⟨g, j * 13 + 6, none⟩ = some (.slice va vs.length vc) := ((unhide B0).cell (p := ⟨g, j * 13 + 6, none⟩) hlt0).trans (Ns.cell hN j 6 (j * 13 + 6) hl1 (by decide) rfl).1
    have c7 : wr.cell? ⟨g, j * 13 + 7, none⟩ = some (.slice na nx.length nc) := ((unhide B0).cell (p := ⟨g, j * 13 + 7, none⟩) hlt0).trans (Ns.cell hN j 7 (j * 13 + 7) hl1 (by decide) rfl).1
    have c8 : wr.cell? ⟨g, j * 13 + 8, none⟩ = some (.slice ma mt.length mc) := ((unhide B0).cell (p := ⟨g, j * 13 + 8, none⟩) hlt0).trans (Ns.cell hN j 8 (j * 13 + 8) hl1 (by decide) rfl).1
    have c9 : wr.cell? ⟨g, j * 13 + 9, none⟩ = some (.int .i64 cm) := ((unhide B0).cell (p := ⟨g, j * 13 + 9, none⟩) hlt0).trans (Ns.cell hN j 9 (j * 13 + 9) hl1 (by decide) rfl).1
    have c10 : wr.cell? ⟨g, j * 13 + 10, none⟩ = some (.int .i64 el) := ((unhide B0).cell (p := ⟨g, j * 13 + 10, none⟩) hlt0).trans (Ns.cell hN j 10 (j * 13 + 10) hl1 (by decide) rfl).1
    have c11 : wr.cell? ⟨g, j * 13 + 11, none⟩ = some (.int .i64 wt) := ((unhide B0).cell (p := ⟨g, j * 13 + 11, none⟩) hlt0).trans (Ns.cell hN j 11 (j * 13 + 11) hl1 (by decide) rfl).1
    have c12 : wr.cell? ⟨g, j * 13 + 12, none⟩ = some (.bool up) := ((unhide B0).cell (p := ⟨g, j * 13 + 12, none⟩) hlt0).trans (Ns.cell hN j 12 (j * 13 + 12) hl1 (by decide) rfl).1
    have d0 : wr.cell? ⟨g', j * 13, none⟩ = some (.int .i64 id) := ((unhide B0).cell (p := ⟨g', j * 13, none⟩) hlt0').trans (Ns.cell hN' j 0 (j * 13) hm1 (by decide) rfl).1
    have d1 : wr.cell? ⟨g', j * 13 + 1, none⟩ = some (.int .i64 tm) := ((unhide B0).cell (p := ⟨g', j * 13 + 1, none⟩) hlt0').trans (Ns.cell hN' j 1 (j * 13 + 1) hm1 (by decide) rfl).1
    have d2 : wr.cell? ⟨g', j * 13 + 2, none⟩ = some (.int .i64 vo) := ((unhide B0).cell (p := ⟨g', j * 13 + 2, none⟩) hlt0').trans (Ns.cell hN' j 2 (j * 13 + 2) hm1 (by decide) rfl).1
    have d3 : wr.cell? ⟨g', j * 13 + 3, none⟩ = some (.slice la2 lg.length lc2) := ((unhide B0).cell (p := ⟨g', j * 13 + 3, none⟩) hlt0').trans (Ns.cell hN' j 3 (j * 13 + 3) hm1 (by decide) rfl).1
    have d4 : wr.cell? ⟨g', j * 13 + 4, none⟩ = some (.slice sa2 st.length sc2) := ((unhide B0).cell (p := ⟨g', j * 13 + 4, none⟩) hlt0').trans (Ns.cell hN' j 4 (j * 13 + 4) hm1 (by decide) rfl).1
    have d5 : wr.cell? ⟨g', j * 13 + 5, none⟩ = some (.int .i64 ro) := ((unhide B0).cell (p := ⟨g', j * 13 + 5, none⟩) hlt0').trans (Ns.cell hN' j 5 (j * 13 + 5) hm1 (by decide) rfl).1
    have d6 : wr.cell? ⟨g', j * 13 + 6, none⟩ = some (.slice va2 vs.length vc2) := ((unhide B0).cell (p := ⟨g', j * 13 + 6, none⟩) hlt0').trans (Ns.cell hN' j 6 (j * 13 + 6) hm1 (by decide) rfl).1
    have d7 : wr.cell? ⟨g', j * 13 + 7, none⟩ = some (.slice na2 nx.length nc2) := ((unhide B0).cell (p := ⟨g', j * 13 + 7, none⟩) hlt0').trans (Ns.cell hN' j 7 (j * 13 + 7) hm1 (by decide) rfl).1
    have d8 : wr.cell? ⟨g', j * 13 + 8, none⟩ = some (.slice ma2 mt.length mc2) := ((unhide B0).cell (p := ⟨g', j * 13 + 8, none⟩) hlt0').trans (Ns.cell hN' j 8 (j * 13 + 8) hm1 (by decide) rfl).1
    have d9 : wr.cell? ⟨g', j * 13 + 9, none⟩ = some (.int .i64 cm) := ((unhide B0).cell (p := ⟨g', j * 13 + 9, none⟩) hlt0').trans (Ns.cell hN' j 9 (j * 13 + 9) hm1 (by decide) rfl).1
    have d10 : wr.cell? ⟨g', j * 13 + 10, none⟩ = some (.int .i64 el) := ((unhide B0).cell (p := ⟨g', j * 13 + 10, none⟩) hlt0').trans (Ns.cell hN' j 10 (j * 13 + 10) hm1 (by decide) rfl).1
    have d11 : wr.cell? ⟨g', j * 13 + 11, none⟩ = some (.int .i64 wt) := ((unhide B0).cell (p := ⟨g', j * 13 + 11, none⟩) hlt0').trans (Ns.cell hN' j 11 (j * 13 + 11) hm1 (by decide) rfl).1
    have d12 : wr.cell? ⟨g', j * 13 + 12, none⟩ = some (.bool up) := ((unhide B0).cell (p := ⟨g', j * 13 + 12, none⟩) hlt0').trans (Ns.cell hN' j 12 (j * 13 + 12) hm1 (by decide) rfl).1
    have HC := hide (eqNode_any id tm vo ro cm el wt up lg st vs nx mt la lc sa sc va vc na nc ma mc la2 lc2 sa2 sc2 va2 vc2 na2 nc2 ma2 mc2 wr.drew (r1.below (below_drewN (Below.refl _ _) 1)) (r2.below (below_drewN (Below.refl _ _) 1)) hzx)
    have p0 : (0 : Int) ≤ (j : Int) := by omega
    have p1 : (j : Int) < (n : Int) := by omega
    clear r1 r2 hN hN' hl hmm hl1 hm1 hzx
    have hgl : g < wr.drew.heap.size := Nat.lt_of_lt_of_le hlt0 (unhide B0).size
    have hgl' : g' < wr.drew.heap.size := Nat.lt_of_lt_of_le hlt0' (unhide B0).size
    go_upto_region 6 with fail
    refine wp_region_noPanic ?_
    refine wp_region_held_drew (S := (fun wx => wx.cell? ⟨g, j * 13, none⟩ = some (.int .i64 id) ∧ wx.cell? ⟨g, j * 13 + 1, none⟩ = some (.int .i64 tm) ∧ wx.cell? ⟨g, j * 13 + 2, none⟩ = some (.int .i64 vo) ∧ wx.cell? ⟨g, j * 13 + 3, none⟩ = some (.slice la lg.length lc) ∧ wx.cell? ⟨g, j * 13 + 4, none⟩ = some (.slice sa st.length sc) ∧ wx.cell? ⟨g, j * 13 + 5, none⟩ = some (.int .i64 ro) ∧ wx.cell? ⟨g, j * 13 + 6, none⟩ = some (.slice va vs.length vc) ∧ wx.cell? ⟨g, j * 13 + 7, none⟩ = some (.slice na nx.length nc) ∧ wx.cell? ⟨g, j * 13 + 8, none⟩ = some (.slice ma mt.length mc) ∧ wx.cell? ⟨g, j * 13 + 9, none⟩ = some (.int .i64 cm) ∧ wx.cell? ⟨g, j * 13 + 10, none⟩ = some (.int .i64 el) ∧ wx.cell? ⟨g, j * 13 + 11, none⟩ = some (.int .i64 wt) ∧ wx.cell? ⟨g, j * 13 + 12, none⟩ = some (.bool up) ∧ wx.cell? ⟨g', j * 13, none⟩ = some (.int .i64 id) ∧ wx.cell? ⟨g', j * 13 + 1, none⟩ = some (.int .i64 tm) ∧ wx.cell? ⟨g', j * 13 + 2, none⟩ = some (.int .i64 vo) ∧ wx.cell? ⟨g', j * 13 + 3, none⟩ = some (.slice la2 lg.length lc2) ∧ wx.cell? ⟨g', j * 13 + 4, none⟩ = some (.slice sa2 st.length sc2) ∧ wx.cell? ⟨g', j * 13 + 5, none⟩ = some (.int .i64 ro) ∧ wx.cell? ⟨g', j * 13 + 6, none⟩ = some (.slice va2 vs.length vc2) ∧ wx.cell? ⟨g', j * 13 + 7, none⟩ = some (.slice na2 nx.length nc2) ∧ wx.cell? ⟨g', j * 13 + 8, none⟩ = some (.slice ma2 mt.length mc2) ∧ wx.cell? ⟨g', j * 13 + 9, none⟩ = some (.int .i64 cm) ∧ wx.cell? ⟨g', j * 13 + 10, none⟩ = some (.int .i64 el) ∧ wx.cell? ⟨g', j * 13 + 11, none⟩ = some (.int .i64 wt) ∧ wx.cell? ⟨g', j * 13 + 12, none⟩ = some (.bool up))) (by kernel_rfl) ?_ (fun hHeld => ?_)
    · exact ⟨c0, c1, c2, c3, c4, c5, c6, c7, c8, c9, c10, c11, c12, d0, d1, d2, d3, d4, d5, d6, d7, d8, d9, d10, d11, d12⟩
    refine wpAnyH_take (i := 0) (oi := _) (v := ?_) rfl (by kernel_rfl) (by kernel_rfl) (by kernel_rfl) (fun _ _ _ h => h) (Or.inl ⟨by rfl, ?_⟩) (by assumption) ?_
    rotate_left 1
    · (intro wq hSw; (try dsimp only at hSw); (try simp only [List.getElem_toArray, List.getElem_cons_succ, List.getElem_cons_zero]); go_simp; try with_reducible rfl)
    (try simp only [Act.put, List.getElem_toArray, List.getElem_cons_succ, List.getElem_cons_zero, List.setIfInBounds_toArray, List.set_cons_zero, List.set_cons_succ])
    refine wpAnyH_take (i := 1) (oi := _) (v := ?_) rfl (by kernel_rfl) (by kernel_rfl) (by kernel_rfl) (fun _ _ _ h => h) (Or.inl ⟨by rfl, ?_⟩) (by assumption) ?_
    rotate_left 1
    · (intro wq hSw; (try dsimp only at hSw); (try simp only [List.getElem_toArray, List.getElem_cons_succ, List.getElem_cons_zero]); go_simp; try with_reducible rfl)
    (try simp only [Act.put, List.getElem_toArray, List.getElem_cons_succ, List.getElem_cons_zero, List.setIfInBounds_toArray, List.set_cons_zero, List.set_cons_succ])
    refine wpAnyH_take (i := 2) (oi := _) (v := ?_) rfl (by kernel_rfl) (by kernel_rfl) (by kernel_rfl) (fun _ _ _ h => h) (Or.inl ⟨by rfl, ?_⟩) (by assumption) ?_
    rotate_left 1
    · (intro wq hSw; (try dsimp only at hSw); (try simp only [List.getElem_toArray, List.getElem_cons_succ, List.getElem_cons_zero]); go_simp; try with_reducible rfl)
    (try simp only [Act.put, List.getElem_toArray, List.getElem_cons_succ, List.getElem_cons_zero, List.setIfInBounds_toArray, List.set_cons_zero, List.set_cons_succ])
    refine wpAnyH_take (i := 3) (oi := _) (v := ?_) rfl (by kernel_rfl) (by kernel_rfl) (by kernel_rfl) (fun _ _ _ h => h) (Or.inl ⟨by rfl, ?_⟩) (by assumption) ?_
    rotate_left 1
    · (intro wq hSw; (try dsimp only at hSw); (try simp only [List.getElem_toArray, List.getElem_cons_succ, List.getElem_cons_zero]); go_simp; try with_reducible rfl)
    (try simp only [Act.put, List.getElem_toArray, List.getElem_cons_succ, List.getElem_cons_zero, List.setIfInBounds_toArray, List.set_cons_zero, List.set_cons_succ])
    refine wpAnyH_take (i := 4) (oi := _) (v := ?_) rfl (by kernel_rfl) (by kernel_rfl) (by kernel_rfl) (fun _ _ _ h => h) (Or.inl ⟨by rfl, ?_⟩) (by assumption) ?_
    rotate_left 1
    · (intro wq hSw; (try dsimp only at hSw); (try simp only [List.getElem_toArray, List.getElem_cons_succ, List.getElem_cons_zero]); go_simp; try with_reducible rfl)
    (try simp only [Act.put, List.getElem_toArray, List.getElem_cons_succ, List.getElem_cons_zero, List.setIfInBounds_toArray, List.set_cons_zero, List.set_cons_succ])
    refine wpAnyH_take (i := 5) (oi := _) (v := ?_) rfl (by kernel_rfl) (by kernel_rfl) (by kernel_rfl) (fun _ _ _ h => h) (Or.inl ⟨by rfl, ?_⟩) (by assumption) ?_
    rotate_left 1
    · (intro wq hSw; (try dsimp only at hSw); (try simp only [List.getElem_toArray, List.getElem_cons_succ, List.getElem_cons_zero]); go_simp; try with_reducible rfl)
    (try simp only [Act.put, List.getElem_toArray, List.getElem_cons_succ, List.getElem_cons_zero, List.setIfInBounds_toArray, List.set_cons_zero, List.set_cons_succ])
    refine wpAnyH_take (i := 6) (oi := _) (v := ?_) rfl (by kernel_rfl) (by kernel_rfl) (by kernel_rfl) (fun _ _ _ h => h) (Or.inl ⟨by rfl, ?_⟩) (by assumption) ?_
    rotate_left 1
    · (intro wq hSw; (try dsimp only at hSw); (try simp only [List.getElem_toArray, List.getElem_cons_succ, List.getElem_cons_zero]); go_simp; try with_reducible rfl)
    (try simp only [Act.put, List.getElem_toArray, List.getElem_cons_succ, List.getElem_cons_zero, List.setIfInBounds_toArray, List.set_cons_zero, List.set_cons_succ])
    refine wpAnyH_take (i := 7) (oi := _) (v := ?_) rfl (by kernel_rfl) (by kernel_rfl) (by kernel_rfl) (fun _ _ _ h => h) (Or.inl ⟨by rfl, ?_⟩) (by assumption) ?_
    rotate_left 1
    · (intro wq hSw; (try dsimp only at hSw); (try simp only [List.getElem_toArray, List.getElem_cons_succ, List.getElem_cons_zero]); go_simp; try with_reducible rfl)
    (try simp only [Act.put, List.getElem_toArray, List.getElem_cons_succ, List.getElem_cons_zero, List.setIfInBounds_toArray, List.set_cons_zero, List.set_cons_succ])
    refine wpAnyH_ready (rs := [8]) (by kernel_rfl) (by simp) ?_
    refine AllReadyH.cons (o := _) rfl (fun K hK => ?_) AllReadyH.nil
    go_simp
    refine (unhide HC).mono ?_
    rintro e w2 ⟨rfl, hb⟩
    have B1 := hide ((below_drewN (unhide B0) 1).trans (hb.mono (unhide B0).size))
    go_wp2_with fail
    refine hK.out _ _ ?_ (fun hHeld => ?_)
    · exact ⟨(hb.cell (p := ⟨g, j * 13, none⟩) hgl).trans c0, (hb.cell (p := ⟨g, j * 13 + 1, none⟩) hgl).trans c1, (hb.cell (p := ⟨g, j * 13 + 2, none⟩) hgl).trans c2, (hb.cell (p := ⟨g, j * 13 + 3, none⟩) hgl).trans c3, (hb.cell (p := ⟨g, j * 13 + 4, none⟩) hgl).trans c4, (hb.cell (p := ⟨g, j * 13 + 5, none⟩) hgl).trans c5, (hb.cell (p := ⟨g, j * 13 + 6, none⟩) hgl).trans c6, (hb.cell (p := ⟨g, j * 13 + 7, none⟩) hgl).trans c7, (hb.cell (p := ⟨g, j * 13 + 8, none⟩) hgl).trans c8, (hb.cell (p := ⟨g, j * 13 + 9, none⟩) hgl).trans c9, (hb.cell (p := ⟨g, j * 13 + 10, none⟩) hgl).trans c10, (hb.cell (p := ⟨g, j * 13 + 11, none⟩) hgl).trans c11, (hb.cell (p := ⟨g, j * 13 + 12, none⟩) hgl).trans c12, (hb.cell (p := ⟨g', j * 13, none⟩) hgl').trans d0, (hb.cell (p := ⟨g', j * 13 + 1, none⟩) hgl').trans d1, (hb.cell (p := ⟨g', j * 13 + 2, none⟩) hgl').trans d2, (hb.cell (p := ⟨g', j * 13 + 3, none⟩) hgl').trans d3, (hb.cell (p := ⟨g', j * 13 + 4, none⟩) hgl').trans d4, (hb.cell (p := ⟨g', j * 13 + 5, none⟩) hgl').trans d5, (hb.cell (p := ⟨g', j * 13 + 6, none⟩) hgl').trans d6, (hb.cell (p := ⟨g', j * 13 + 7, none⟩) hgl').trans d7, (hb.cell (p := ⟨g', j * 13 + 8, none⟩) hgl').trans d8, (hb.cell (p := ⟨g', j * 13 + 9, none⟩) hgl').trans d9, (hb.cell (p := ⟨g', j * 13 + 10, none⟩) hgl').trans d10, (hb.cell (p := ⟨g', j * 13 + 11, none⟩) hgl').trans d11, (hb.cell (p := ⟨g', j * 13 + 12, none⟩) hgl').trans d12⟩
    clear hK K
    (try simp only [Act.put, List.getElem_toArray, List.getElem_cons_succ, List.getElem_cons_zero, List.setIfInBounds_toArray, List.set_cons_zero, List.set_cons_succ])
    refine wpAnyH_take (i := 9) (oi := _) (v := ?_) rfl (by kernel_rfl) (by kernel_rfl) (by kernel_rfl) (fun _ _ _ h => h) (Or.inl ⟨by rfl, ?_⟩) (by assumption) ?_
    rotate_left 1
    · (intro wq hSw; (try dsimp only at hSw); (try simp only [List.getElem_toArray, List.getElem_cons_succ, List.getElem_cons_zero]); go_simp; try with_reducible rfl)
    (try simp only [Act.put, List.getElem_toArray, List.getElem_cons_succ, List.getElem_cons_zero, List.setIfInBounds_toArray, List.set_cons_zero, List.set_cons_succ])
    refine wpAnyH_done (by kernel_rfl) (NoPanic.normal ?_) _
    clear hb HC B0 c0 d0 c1 d1 c2 d2 c3 d3 c4 d4 c5 d5 c6 d6 c7 d7 c8 d8 c9 d9 c10 d10 c11 d11 c12 d12
    go_wp2_with fail
    refine ⟨⟨j + 1, by omega, by go_num, B1⟩, ?_⟩
    simp [intOf]; omega
set_option maxRecDepth 100000 in
theorem eqMessageS_nil (a b : Option Addr) (c d : Nat) (w : World) : Calls Try.prog 22 #[.slice a 0 c, .slice b 0 d] w fun e w' => e = .returned (.bool true) ∧ w' = w := by
  go_enter Try.func22, Try.ntmps22
  go_wp2_with fail
  go_loop [5] (fun i => i = .int .i64 0) (fun _ => 0)
  case atStart => rfl
  case round =>
    obtain rfl := hrel
    go_wp2_with fail
    go_ret
    exact ⟨rfl, rfl⟩
set_option maxRecDepth 100000 in
theorem eqLeadS_nil (a b : Option Addr) (c d : Nat) (w : World) : Calls Try.prog 43 #[.slice a 0 c, .slice b 0 d] w fun e w' => e = .returned (.bool true) ∧ w' = w := by
  go_enter Try.func43, Try.ntmps43
  go_wp2_with fail
  go_loop [5] (fun i => i = .int .i64 0) (fun _ => 0)
  case atStart => rfl
  case round =>
    obtain rfl := hrel
    go_wp2_with fail
    go_ret
    exact ⟨rfl, rfl⟩
set_option maxRecDepth 100000 in
theorem eqDoneS_nil (a b : Option Addr) (c d : Nat) (w : World) : Calls Try.prog 44 #[.slice a 0 c, .slice b 0 d] w fun e w' => e = .returned (.bool true) ∧ w' = w := by
  go_enter Try.func44, Try.ntmps44
  go_wp2_with fail
  go_loop [5] (fun i => i = .int .i64 0) (fun _ => 0)
  case atStart => rfl
  case round =>
    obtain rfl := hrel
    go_wp2_with fail
    go_ret
    exact ⟨rfl, rfl⟩
set_option maxRecDepth 100000 in
theorem markMessageS_nil (a : Option Addr) (c k : Nat) (w : World) : Calls Try.prog 24 #[.slice a 0 c, .int .i64 (k : Int)] w fun e w' => e = .returned (.int .i64 (k : Int)) ∧ w' = w := by
  go_enter Try.func24, Try.ntmps24
  go_wp2_with fail
  go_loop [1, 5] (fun kv i => kv = .int .i64 (k : Int) ∧ i = .int .i64 0) (fun _ _ => 0)
  case atStart => exact ⟨rfl, rfl⟩
  case round =>
    obtain ⟨rfl, rfl⟩ := hrel
    go_wp2_with fail
    go_ret
    exact ⟨rfl, rfl⟩
set_option maxRecDepth 100000 in
theorem markLeadS_nil (a : Option Addr) (c k : Nat) (w : World) : Calls Try.prog 46 #[.slice a 0 c, .int .i64 (k : Int)] w fun e w' => e = .returned (.int .i64 (k : Int)) ∧ w' = w := by
  go_enter Try.func46, Try.ntmps46
  go_wp2_with fail
  go_loop [1, 5] (fun kv i => kv = .int .i64 (k : Int) ∧ i = .int .i64 0) (fun _ _ => 0)
  case atStart => exact ⟨rfl, rfl⟩
  case round =>
    obtain ⟨rfl, rfl⟩ := hrel
    go_wp2_with fail
    go_ret
    exact ⟨rfl, rfl⟩
set_option maxRecDepth 100000 in
theorem markDoneS_nil (a : Option Addr) (c k : Nat) (w : World) : Calls Try.prog 47 #[.slice a 0 c, .int .i64 (k : Int)] w fun e w' => e = .returned (.int .i64 (k : Int)) ∧ w' = w := by
  go_enter Try.func47, Try.ntmps47
  go_wp2_with fail
  go_loop [1, 5] (fun kv i => kv = .int .i64 (k : Int) ∧ i = .int .i64 0) (fun _ _ => 0)
  case atStart => exact ⟨rfl, rfl⟩
  case round =>
    obtain ⟨rfl, rfl⟩ := hrel
    go_wp2_with fail
    go_ret
    exact ⟨rfl, rfl⟩
set_option maxRecDepth 100000 in
theorem heldMessageS_nil (a : Option Addr) (c k : Nat) (w : World) : Calls Try.prog 26 #[.slice a 0 c, .int .i64 (k : Int)] w fun e w' => e = .returned (.int .i64 (k : Int)) ∧ w' = w := by
  go_enter Try.func26, Try.ntmps26
  go_wp2_with fail
  go_loop [1, 5] (fun kv i => kv = .int .i64 (k : Int) ∧ i = .int .i64 0) (fun _ _ => 0)
  case atStart => exact ⟨rfl, rfl⟩
  case round =>
    obtain ⟨rfl, rfl⟩ := hrel
    go_wp2_with fail
    go_ret
    exact ⟨rfl, rfl⟩
set_option maxRecDepth 100000 in
theorem heldLeadS_nil (a : Option Addr) (c k : Nat) (w : World) : Calls Try.prog 49 #[.slice a 0 c, .int .i64 (k : Int)] w fun e w' => e = .returned (.int .i64 (k : Int)) ∧ w' = w := by
  go_enter Try.func49, Try.ntmps49
  go_wp2_with fail
  go_loop [1, 5] (fun kv i => kv = .int .i64 (k : Int) ∧ i = .int .i64 0) (fun _ _ => 0)
  case atStart => exact ⟨rfl, rfl⟩
  case round =>
    obtain ⟨rfl, rfl⟩ := hrel
    go_wp2_with fail
    go_ret
    exact ⟨rfl, rfl⟩
set_option maxRecDepth 100000 in
theorem heldDoneS_nil (a : Option Addr) (c k : Nat) (w : World) : Calls Try.prog 50 #[.slice a 0 c, .int .i64 (k : Int)] w fun e w' => e = .returned (.int .i64 (k : Int)) ∧ w' = w := by
  go_enter Try.func50, Try.ntmps50
  go_wp2_with fail
  go_loop [1, 5] (fun kv i => kv = .int .i64 (k : Int) ∧ i = .int .i64 0) (fun _ _ => 0)
  case atStart => exact ⟨rfl, rfl⟩
  case round =>
    obtain ⟨rfl, rfl⟩ := hrel
    go_wp2_with fail
    go_ret
    exact ⟨rfl, rfl⟩
end Go.Proofs.Ytafbdjcoimopfaa
