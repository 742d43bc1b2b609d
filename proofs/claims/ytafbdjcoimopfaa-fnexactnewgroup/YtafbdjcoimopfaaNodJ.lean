/- laws.heldNodeS, walked. (Written by py/nodj.py.) -/
import Derived.Test.YtafbdjcoimopfaaNodG
namespace Go.Proofs.Ytafbdjcoimopfaa
open Go.ChangeShapes Go.WideShapes Go.ChangeAt Go.RowKit Go.Deep
set_option linter.unusedVariables false

set_option maxRecDepth 100000 in
set_option maxHeartbeats 4000000 in
theorem heldNodeS_any (c : Nat) (hc0 : 0 < c) (hc1 : c ≤ 100000) (B : Nat) (v : Value) (n : Nat) (l : List NV) (w : World) (h : Ns nvS B w v n (mkVs c l)) (hn : n ≤ 8) (hw : ∀ x ∈ l, wtV x ≤ 1000) :
    Calls Try.prog 48 #[v, .int .i64 (c : Int)] w fun e w' => e = .returned (.int .i64 ((c + wtVs l : Nat) : Int)) ∧ Below w.heap.size w w' := by
  have hll : l.length = n := (mkVs_len c l).symm.trans h.ln
  rcases own_shape h.row with ⟨rfl, h0⟩ | ⟨g, cap, rfl, hB, hlt0, hnn, hm⟩
  · have hl0 : l = [] := List.eq_nil_of_length_eq_zero (hll.trans h0)
    subst hl0 h0
    clear h hw
    go_enter Try.func48, Try.ntmps48
    go_wp2_with fail
    go_loop [1, 5] (fun k i => k = .int .i64 (c : Int) ∧ i = .int .i64 0) (fun _ _ => 0)
    case atStart => exact ⟨rfl, rfl⟩
    case round =>
      obtain ⟨rfl, rfl⟩ := hrel
      go_wp2_with fail
      go_ret
      exact ⟨ret_int (by simp [wtVs]), Below.refl _ _⟩
  have HN := hide h
  have HW := hide hw
  have HLN := hide hll
  clear h hw hll
  have HWB := hide (fun (l1 l2 : List NV) (x : NV) (he : l = l1 ++ x :: l2) => wt_bound l1 l2 x l he (unhide HW) (by rw [unhide HLN]; exact hn))
  go_enter Try.func48, Try.ntmps48
  go_wp2_with fail
  go_loopw [1, 5] (fun kv iv wr => ∃ (l1 l2 : List NV) (k j : Nat), Hid (l = l1 ++ l2) ∧ j ≤ n ∧ Hid (l1.length = j) ∧ Hid (k = c + wtVs l1) ∧ kv = .int .i64 (k : Int) ∧ iv = .int .i64 (j : Int) ∧ Hid (Below w.heap.size w wr)) (fun _ iv _ => n - (intOf iv).toNat)
  case atStart => exact ⟨[], l, c, 0, hide rfl, Nat.zero_le _, hide rfl, hide (by simp [wtVs]), rfl, rfl, hide (Below.refl _ _)⟩
  case round =>
    obtain ⟨l1, l2, k0, j, HL, hj, HJ, HK, rfl, rfl, B0⟩ := hrel
    by_cases hlt : j < n
    case neg =>
      obtain rfl : j = n := by omega
      have hl2 : l2 = [] := by
        have h1 := unhide HLN
        rw [unhide HL, List.length_append, unhide HJ] at h1
        exact List.eq_nil_of_length_eq_zero (by omega)
      subst hl2
      have E : Hid (k0 = c + wtVs l) := hide (by rw [unhide HL, List.append_nil]; exact unhide HK)
      clear HL HK
      go_wp2_with fail
      go_ret
      exact ⟨ret_int (by rw [unhide E]), unhide B0⟩
    obtain ⟨x, l3, rfl⟩ : ∃ x l3, l2 = x :: l3 := by
      cases l2 with
      | nil =>
        have h1 := unhide HLN
        rw [unhide HL, List.length_append, unhide HJ] at h1
        simp at h1
        omega
      | cons x l3 => exact ⟨x, l3, rfl⟩
    have HB0 := unhide HWB l1 l3 x (unhide HL)
    have hk0 : k0 ≤ 108000 ∧ 0 < k0 := by have := unhide HK; omega
    have HM1 : Hid ((mkVs c l1).length = j) := hide ((mkVs_len c l1).trans (unhide HJ))
    have hwx := HB0.2
    have p0 : (0 : Int) ≤ (j : Int) := by omega
    have p1 : (j : Int) < (n : Int) := by omega
    have HN1 : Hid (Ns nvS B w (.slice (some ⟨g, 0, none⟩) n cap) n (mkVs c l1 ++ mkV k0 x :: mkVs (k0 + wtV x) l3)) := hide (by have h1 := unhide HN; rw [unhide HL, mkVs_one, ← unhide HK] at h1; exact h1)
    obtain ⟨id, tm, vo, ro, cm, el, wt, up, lg, st, vs, nx, mt, lv, sv, vv, nv, mv⟩ := x
    have hln : 8 + 3 * lg.length + st.length + vs.length + nx.length + mt.length ≤ 1000 := hwx
    clear HB0 hwx
    generalize mkVs (k0 + wtV ⟨id, tm, vo, ro, cm, el, wt, up, lg, st, vs, nx, mt, lv, sv, vv, nv, mv⟩) l3 = l4 at *
    obtain ⟨k1, hk1⟩ : ∃ q : Nat, q = k0 + 1 := ⟨_, rfl⟩
    have hb1 : k1 ≤ 108000 + 1 ∧ 0 < k1 := by omega
    obtain ⟨k2, hk2⟩ : ∃ q : Nat, q = k1 + 1 := ⟨_, rfl⟩
    have hb2 : k2 ≤ 108000 + 1 + 1 ∧ 0 < k2 := by omega
    obtain ⟨k3, hk3⟩ : ∃ q : Nat, q = k2 + 1 := ⟨_, rfl⟩
    have hb3 : k3 ≤ 108000 + 1 + 1 + 1 ∧ 0 < k3 := by omega
    obtain ⟨k4, hk4⟩ : ∃ q : Nat, q = k3 + 3 * lg.length := ⟨_, rfl⟩
    have hb4 : k4 ≤ 108000 + 1 + 1 + 1 + 3 * lg.length ∧ 0 < k4 := by omega
    obtain ⟨k5, hk5⟩ : ∃ q : Nat, q = k4 + st.length := ⟨_, rfl⟩
    have hb5 : k5 ≤ 108000 + 1 + 1 + 1 + 3 * lg.length + st.length ∧ 0 < k5 := by omega
    obtain ⟨k6, hk6⟩ : ∃ q : Nat, q = k5 + 1 := ⟨_, rfl⟩
    have hb6 : k6 ≤ 108000 + 1 + 1 + 1 + 3 * lg.length + st.length + 1 ∧ 0 < k6 := by omega
    obtain ⟨k7, hk7⟩ : ∃ q : Nat, q = k6 + vs.length := ⟨_, rfl⟩
    have hb7 : k7 ≤ 108000 + 1 + 1 + 1 + 3 * lg.length + st.length + 1 + vs.length ∧ 0 < k7 := by omega
    obtain ⟨k8, hk8⟩ : ∃ q : Nat, q = k7 + nx.length := ⟨_, rfl⟩
    have hb8 : k8 ≤ 108000 + 1 + 1 + 1 + 3 * lg.length + st.length + 1 + vs.length + nx.length ∧ 0 < k8 := by omega
    obtain ⟨k9, hk9⟩ : ∃ q : Nat, q = k8 + mt.length := ⟨_, rfl⟩
    have hb9 : k9 ≤ 108000 + 1 + 1 + 1 + 3 * lg.length + st.length + 1 + vs.length + nx.length + mt.length ∧ 0 < k9 := by omega
    obtain ⟨k10, hk10⟩ : ∃ q : Nat, q = k9 + 1 := ⟨_, rfl⟩
    have hb10 : k10 ≤ 108000 + 1 + 1 + 1 + 3 * lg.length + st.length + 1 + vs.length + nx.length + mt.length + 1 ∧ 0 < k10 := by omega
    obtain ⟨k11, hk11⟩ : ∃ q : Nat, q = k10 + 1 := ⟨_, rfl⟩
    have hb11 : k11 ≤ 108000 + 1 + 1 + 1 + 3 * lg.length + st.length + 1 + vs.length + nx.length + mt.length + 1 + 1 ∧ 0 < k11 := by omega
    obtain ⟨k12, hk12⟩ : ∃ q : Nat, q = k11 + 1 := ⟨_, rfl⟩
    have hb12 : k12 ≤ 108000 + 1 + 1 + 1 + 3 * lg.length + st.length + 1 + vs.length + nx.length + mt.length + 1 + 1 + 1 ∧ 0 < k12 := by omega
    obtain ⟨k13, hk13⟩ : ∃ q : Nat, q = k12 + 1 := ⟨_, rfl⟩
    have hb13 : k13 ≤ 108000 + 1 + 1 + 1 + 3 * lg.length + st.length + 1 + vs.length + nx.length + mt.length + 1 + 1 + 1 + 1 ∧ 0 < k13 := by omega
    have HX : mkV k0 ⟨id, tm, vo, ro, cm, el, wt, up, lg, st, vs, nx, mt, lv, sv, vv, nv, mv⟩ = ⟨(k0 : Int), (k1 : Int), (k2 : Int), (k5 : Int), (k9 : Int), (k10 : Int), (k11 : Int), (m3 k12), (mkEs k3 lg.length), (marksJ k4 st.length), (marksJ k6 vs.length), (marksJ k7 nx.length), (marksJ k8 mt.length), lv, sv, vv, nv, mv⟩ := by
      subst hk1 hk2 hk3 hk4 hk5 hk6 hk7 hk8 hk9 hk10 hk11 hk12 hk13
      rfl
    rw [HX] at HN1
    have HKE : Hid (k13 = c + wtVs (l1 ++ [⟨id, tm, vo, ro, cm, el, wt, up, lg, st, vs, nx, mt, lv, sv, vv, nv, mv⟩])) := hide (by have hk := unhide HK; rw [wtVs_app]; simp only [wtVs, wtV]; omega)
    have hsub := fun p hp => (unhide HN1).sub p (List.mem_flatMap.2 ⟨⟨(k0 : Int), (k1 : Int), (k2 : Int), (k5 : Int), (k9 : Int), (k10 : Int), (k11 : Int), (m3 k12), (mkEs k3 lg.length), (marksJ k4 st.length), (marksJ k6 vs.length), (marksJ k7 nx.length), (marksJ k8 mt.length), lv, sv, vv, nv, mv⟩, by simp, hp⟩)
    have HSub := hide hsub
    have HCell := hide (fun i q (hi : i < 13) (hq : q = j * 13 + i) => (Ns.cell (unhide HN1) j i q (unhide HM1) hi hq).1)
    have hw1 : IntKind.i64.wrap ((k0 : Nat) : Int) = ((k0 : Nat) : Int) := wrapSm _ (by omega) (by omega)
    have hv1 : IntKind.i64.wrap (((k0 : Nat) : Int) + 1) = ((k1 : Nat) : Int) := (wrapSm _ (by omega) (by omega)).trans (by omega)
    have hw2 : IntKind.i64.wrap ((k1 : Nat) : Int) = ((k1 : Nat) : Int) := wrapSm _ (by omega) (by omega)
    have hv2 : IntKind.i64.wrap (((k1 : Nat) : Int) + 1) = ((k2 : Nat) : Int) := (wrapSm _ (by omega) (by omega)).trans (by omega)
    have hw3 : IntKind.i64.wrap ((k2 : Nat) : Int) = ((k2 : Nat) : Int) := wrapSm _ (by omega) (by omega)
    have hv3 : IntKind.i64.wrap (((k2 : Nat) : Int) + 1) = ((k3 : Nat) : Int) := (wrapSm _ (by omega) (by omega)).trans (by omega)
    have he4 : ((k3 : Nat) : Int) + 3 * (lg.length : Int) = ((k4 : Nat) : Int) := by omega
    have he5 : ((k4 : Nat) : Int) + (st.length : Int) = ((k5 : Nat) : Int) := by omega
    have hw6 : IntKind.i64.wrap ((k5 : Nat) : Int) = ((k5 : Nat) : Int) := wrapSm _ (by omega) (by omega)
    have hv6 : IntKind.i64.wrap (((k5 : Nat) : Int) + 1) = ((k6 : Nat) : Int) := (wrapSm _ (by omega) (by omega)).trans (by omega)
    have he7 : ((k6 : Nat) : Int) + (vs.length : Int) = ((k7 : Nat) : Int) := by omega
    have he8 : ((k7 : Nat) : Int) + (nx.length : Int) = ((k8 : Nat) : Int) := by omega
    have he9 : ((k8 : Nat) : Int) + (mt.length : Int) = ((k9 : Nat) : Int) := by omega
    have hw10 : IntKind.i64.wrap ((k9 : Nat) : Int) = ((k9 : Nat) : Int) := wrapSm _ (by omega) (by omega)
    have hv10 : IntKind.i64.wrap (((k9 : Nat) : Int) + 1) = ((k10 : Nat) : Int) := (wrapSm _ (by omega) (by omega)).trans (by omega)
    have hw11 : IntKind.i64.wrap ((k10 : Nat) : Int) = ((k10 : Nat) : Int) := wrapSm _ (by omega) (by omega)
    have hv11 : IntKind.i64.wrap (((k10 : Nat) : Int) + 1) = ((k11 : Nat) : Int) := (wrapSm _ (by omega) (by omega)).trans (by omega)
    have hw12 : IntKind.i64.wrap ((k11 : Nat) : Int) = ((k11 : Nat) : Int) := wrapSm _ (by omega) (by omega)
    have hv12 : IntKind.i64.wrap (((k11 : Nat) : Int) + 1) = ((k12 : Nat) : Int) := (wrapSm _ (by omega) (by omega)).trans (by omega)
    have hw13 : IntKind.i64.wrap ((k12 : Nat) : Int) = ((k12 : Nat) : Int) := wrapSm _ (by omega) (by omega)
    have hv13 : IntKind.i64.wrap (((k12 : Nat) : Int) + 1) = ((k13 : Nat) : Int) := (wrapSm _ (by omega) (by omega)).trans (by omega)
    have HE := hide (And.intro he4 (And.intro he5 (And.intro he7 (And.intro he8 he9))))
    clear HX hsub hk1 hk2 hk3 hk4 hk5 hk6 hk7 hk8 hk9 hk10 hk11 hk12 hk13 he4 he5 he7 he8 he9 HN1 HN
    have c0 : wr.cell? ⟨g, j * 13, none⟩ = some (.int .i64 (k0 : Int)) := ((unhide B0).cell (p := ⟨g, j * 13, none⟩) hlt0).trans (unhide HCell 0 _ (by omega) (by omega))
    have c1 : wr.cell? ⟨g, j * 13 + 1, none⟩ = some (.int .i64 (k1 : Int)) := ((unhide B0).cell (p := ⟨g, j * 13 + 1, none⟩) hlt0).trans (unhide HCell 1 _ (by omega) (by omega))
    have c2 : wr.cell? ⟨g, j * 13 + 2, none⟩ = some (.int .i64 (k2 : Int)) := ((unhide B0).cell (p := ⟨g, j * 13 + 2, none⟩) hlt0).trans (unhide HCell 2 _ (by omega) (by omega))
    have c3 : wr.cell? ⟨g, j * 13 + 3, none⟩ = some (lv) := ((unhide B0).cell (p := ⟨g, j * 13 + 3, none⟩) hlt0).trans (unhide HCell 3 _ (by omega) (by omega))
    have HC := hide (heldEntryS_any k3 (by omega) (by omega) B lv lg.length wr (OwnSub.kept (T := fun _ => False) (unhide HSub (lv, .E (mkEs k3 lg.length)) (by simp [nvS, nvSubs])) (Touch.ofBelow (unhide B0)) (fun _ _ h => h)) (by omega))
    rw [(unhide HE).1] at HC
    have hneg4 : ¬ ((k4 : Nat) : Int) < 0 := by omega
    go_wp2_with fail
    refine (unhide HC).mono ?_
    rintro e v1 ⟨rfl, hb⟩
    have B1 := hide ((unhide B0).trans (hb.mono (unhide B0).size))
    clear hb HC B0 c0 c1 c2 c3
    have c4 : v1.cell? ⟨g, j * 13 + 4, none⟩ = some (sv) := ((unhide B1).cell (p := ⟨g, j * 13 + 4, none⟩) hlt0).trans (unhide HCell 4 _ (by omega) (by omega))
    have HC := hide (heldIntS_at k4 (by omega) (by omega) B sv st.length v1 (OwnSub.kept (T := fun _ => False) (unhide HSub (sv, .I (marksJ k4 st.length)) (by simp [nvS, nvSubs])) (Touch.ofBelow (unhide B1)) (fun _ _ h => h)) (by omega))
    rw [(unhide HE).2.1] at HC
    have hneg5 : ¬ ((k5 : Nat) : Int) < 0 := by omega
    go_wp2_with fail
    refine (unhide HC).mono ?_
    rintro e v2 ⟨rfl, hb⟩
    have B2 := hide (show Below w.heap.size w v2 by rw [hb]; exact unhide B1)
    clear hb HC B1 c4
    have c5 : v2.cell? ⟨g, j * 13 + 5, none⟩ = some (.int .i64 (k5 : Int)) := ((unhide B2).cell (p := ⟨g, j * 13 + 5, none⟩) hlt0).trans (unhide HCell 5 _ (by omega) (by omega))
    have c6 : v2.cell? ⟨g, j * 13 + 6, none⟩ = some (vv) := ((unhide B2).cell (p := ⟨g, j * 13 + 6, none⟩) hlt0).trans (unhide HCell 6 _ (by omega) (by omega))
    have HC := hide (heldIntS_at k6 (by omega) (by omega) B vv vs.length v2 (OwnSub.kept (T := fun _ => False) (unhide HSub (vv, .I (marksJ k6 vs.length)) (by simp [nvS, nvSubs])) (Touch.ofBelow (unhide B2)) (fun _ _ h => h)) (by omega))
    rw [(unhide HE).2.2.1] at HC
    have hneg7 : ¬ ((k7 : Nat) : Int) < 0 := by omega
    go_wp2_with fail
    refine (unhide HC).mono ?_
    rintro e v3 ⟨rfl, hb⟩
    have B3 := hide (show Below w.heap.size w v3 by rw [hb]; exact unhide B2)
    clear hb HC B2 c5 c6
    have c7 : v3.cell? ⟨g, j * 13 + 7, none⟩ = some (nv) := ((unhide B3).cell (p := ⟨g, j * 13 + 7, none⟩) hlt0).trans (unhide HCell 7 _ (by omega) (by omega))
    have HC := hide (heldIntS_at k7 (by omega) (by omega) B nv nx.length v3 (OwnSub.kept (T := fun _ => False) (unhide HSub (nv, .I (marksJ k7 nx.length)) (by simp [nvS, nvSubs])) (Touch.ofBelow (unhide B3)) (fun _ _ h => h)) (by omega))
    rw [(unhide HE).2.2.2.1] at HC
    have hneg8 : ¬ ((k8 : Nat) : Int) < 0 := by omega
    go_wp2_with fail
    refine (unhide HC).mono ?_
    rintro e v4 ⟨rfl, hb⟩
    have B4 := hide (show Below w.heap.size w v4 by rw [hb]; exact unhide B3)
    clear hb HC B3 c7
    have c8 : v4.cell? ⟨g, j * 13 + 8, none⟩ = some (mv) := ((unhide B4).cell (p := ⟨g, j * 13 + 8, none⟩) hlt0).trans (unhide HCell 8 _ (by omega) (by omega))
    have HC := hide (heldIntS_at k8 (by omega) (by omega) B mv mt.length v4 (OwnSub.kept (T := fun _ => False) (unhide HSub (mv, .I (marksJ k8 mt.length)) (by simp [nvS, nvSubs])) (Touch.ofBelow (unhide B4)) (fun _ _ h => h)) (by omega))
    rw [(unhide HE).2.2.2.2] at HC
    have hneg9 : ¬ ((k9 : Nat) : Int) < 0 := by omega
    go_wp2_with fail
    refine (unhide HC).mono ?_
    rintro e v5 ⟨rfl, hb⟩
    have B5 := hide (show Below w.heap.size w v5 by rw [hb]; exact unhide B4)
    clear hb HC B4 c8
    have c9 : v5.cell? ⟨g, j * 13 + 9, none⟩ = some (.int .i64 (k9 : Int)) := ((unhide B5).cell (p := ⟨g, j * 13 + 9, none⟩) hlt0).trans (unhide HCell 9 _ (by omega) (by omega))
    have c10 : v5.cell? ⟨g, j * 13 + 10, none⟩ = some (.int .i64 (k10 : Int)) := ((unhide B5).cell (p := ⟨g, j * 13 + 10, none⟩) hlt0).trans (unhide HCell 10 _ (by omega) (by omega))
    have c11 : v5.cell? ⟨g, j * 13 + 11, none⟩ = some (.int .i64 (k11 : Int)) := ((unhide B5).cell (p := ⟨g, j * 13 + 11, none⟩) hlt0).trans (unhide HCell 11 _ (by omega) (by omega))
    obtain ⟨z3, hz3⟩ : ∃ z : Int, Int.tmod ((k12 : Nat) : Int) 3 = z := ⟨_, rfl⟩
    have hz4 : Hid (m3 k12 = (z3 == 0)) := hide (by unfold m3; rw [hz3])
    have c12 : v5.cell? ⟨g, j * 13 + 12, none⟩ = some (.bool (z3 == 0)) := ((unhide B5).cell (p := ⟨g, j * 13 + 12, none⟩) hlt0).trans ((unhide HCell 12 _ (by omega) (by omega)).trans (by rw [← unhide hz4]; rfl))
    go_wp2_with fail
    refine ⟨⟨l1 ++ [⟨id, tm, vo, ro, cm, el, wt, up, lg, st, vs, nx, mt, lv, sv, vv, nv, mv⟩], l3, k13, j + 1, hide (by rw [unhide HL]; simp), by omega, hide (by rw [List.length_append, unhide HJ]; rfl), HKE, rfl, by go_num, B5⟩, ?_⟩
    simp [intOf]; omega
end Go.Proofs.Ytafbdjcoimopfaa
