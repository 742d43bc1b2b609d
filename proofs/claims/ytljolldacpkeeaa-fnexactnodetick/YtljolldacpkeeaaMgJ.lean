/- laws.heldMessageS, walked. (Written by py/mgj.py.) -/
import Derived.Test.YtljolldacpkeeaaMgG
namespace Go.Proofs.Ytljolldacpkeeaa
open Go.ChangeShapes Go.WideShapes Go.ChangeAt Go.RowKit Go.Deep
set_option linter.unusedVariables false

theorem stepB {k k' a b : Nat} (h : k ≤ a ∧ 0 < k) (e : k' = k + b) : k' ≤ a + b ∧ 0 < k' := by omega
theorem wrapK0 {k a : Nat} (h : k ≤ a ∧ 0 < k) (ha : a ≤ 200000) : IntKind.i64.wrap ((k : Nat) : Int) = ((k : Nat) : Int) := wrapSm _ (by omega) (by omega)
theorem wrapK1 {k k' a : Nat} (h : k ≤ a ∧ 0 < k) (ha : a ≤ 200000) (e : k' = k + 1) : IntKind.i64.wrap (((k : Nat) : Int) + 1) = ((k' : Nat) : Int) := (wrapSm _ (by omega) (by omega)).trans (by omega)
theorem castK3 {k k' n : Nat} (e : k' = k + 3 * n) : ((k : Nat) : Int) + 3 * (n : Int) = ((k' : Nat) : Int) := by omega
theorem notNegK (k : Nat) : ¬ ((k : Nat) : Int) < 0 := by omega
set_option maxRecDepth 100000 in
set_option maxHeartbeats 4000000 in
theorem heldMessageS_any (c : Nat) (hc0 : 0 < c) (hc1 : c ≤ 100000) (B : Nat) (v : Value) (n : Nat) (l : List MV) (w : World) (h : Ns mgS B w v n (mkMs c l)) (hn : n ≤ 8) (hw : ∀ x ∈ l, wtM x ≤ 1000) :
    Calls Try.prog 14 #[v, .int .i64 (c : Int)] w fun e w' => e = .returned (.int .i64 ((c + wtMs l : Nat) : Int)) ∧ Below w.heap.size w w' := by
  have hll : l.length = n := (mkMs_len c l).symm.trans h.ln
  rcases own_shape h.row with ⟨rfl, h0⟩ | ⟨g, cap, rfl, hB, hlt0, hnn, hm⟩
  · have hl0 : l = [] := List.eq_nil_of_length_eq_zero (hll.trans h0)
    subst hl0 h0
    clear h hw
    go_enter Try.func14, Try.ntmps14
    go_wp2_with fail
    go_loop [1, 5] (fun k i => k = .int .i64 (c : Int) ∧ i = .int .i64 0) (fun _ _ => 0)
    case atStart => exact ⟨rfl, rfl⟩
    case round =>
      obtain ⟨rfl, rfl⟩ := hrel
      go_wp2_with fail
      go_ret
      exact ⟨ret_int (by simp [wtMs]), Below.refl _ _⟩
  have HN := hide h
  have HW := hide hw
  have HLN := hide hll
  clear h hw hll
  have HWB := hide (fun (l1 l2 : List MV) (x : MV) (he : l = l1 ++ x :: l2) => wm_bound l1 l2 x l he (unhide HW) (by rw [unhide HLN]; exact hn))
  go_enter Try.func14, Try.ntmps14
  go_wp2_with fail
  go_loopw [1, 5] (fun kv iv wr => ∃ (l1 l2 : List MV) (k j : Nat), Hid (l = l1 ++ l2) ∧ j ≤ n ∧ Hid (l1.length = j) ∧ Hid (k = c + wtMs l1) ∧ kv = .int .i64 (k : Int) ∧ iv = .int .i64 (j : Int) ∧ Hid (Below w.heap.size w wr)) (fun _ iv _ => n - (intOf iv).toNat)
  case atStart => exact ⟨[], l, c, 0, hide rfl, Nat.zero_le _, hide rfl, hide (by simp [wtMs]), rfl, rfl, hide (Below.refl _ _)⟩
  case round =>
    obtain ⟨l1, l2, k0, j, HL, hj, HJ, HK, rfl, rfl, B0⟩ := hrel
    by_cases hlt : j < n
    case neg =>
      obtain rfl : j = n := by omega
      have hl2 : l2 = [] := by
        have h1 := unhide HLN
        rw [unhide HL, List.length_append, unhide HJ] at h1
        exact List.eq_nil_of_length_eq_zero (by omega)
      subst hl2
      have E : Hid (k0 = c + wtMs l) := hide (by rw [unhide HL, List.append_nil]; exact unhide HK)
      clear HL HK
      go_wp2_with fail
      go_ret
      exact ⟨ret_int (by rw [unhide E]), unhide B0⟩
    obtain ⟨x, l3, rfl⟩ : ∃ x l3, l2 = x :: l3 := by
      cases l2 with
      | nil =>
        have h1 := unhide HLN
        rw [unhide HL, List.length_append, unhide HJ] at h1
        simp at h1
        omega
      | cons x l3 => exact ⟨x, l3, rfl⟩
    have HB0 := unhide HWB l1 l3 x (unhide HL)
    have hk0 : k0 ≤ 108000 ∧ 0 < k0 := by have := unhide HK; omega
    have HM1 : Hid ((mkMs c l1).length = j) := hide ((mkMs_len c l1).trans (unhide HJ))
    have hwx := HB0.2
    have p0 : (0 : Int) ≤ (j : Int) := by omega
    have p1 : (j : Int) < (n : Int) := by omega
    have HN1 : Hid (Ns mgS B w (.slice (some ⟨g, 0, none⟩) n cap) n (mkMs c l1 ++ mkM k0 x :: mkMs (k0 + wtM x) l3)) := hide (by have h1 := unhide HN; rw [unhide HL, mkMs_one, ← unhide HK] at h1; exact h1)
    obtain ⟨kd, fr, dt, tm, ix, lt, cm, ok, es, ev⟩ := x
    have hln : 8 + 3 * es.length ≤ 1000 := hwx
    clear HB0 hwx
    generalize mkMs (k0 + wtM ⟨kd, fr, dt, tm, ix, lt, cm, ok, es, ev⟩) l3 = l4 at *
    have hb0 : k0 ≤ 108000 ∧ 0 < k0 := hk0
    have hacc : 108000 + 1 + 1 + 1 + 1 + 1 + 1 + 1 + 3 * es.length ≤ 200000 := by omega
    have hesl : es.length ≤ 1048576 := by omega
    obtain ⟨k1, hk1⟩ : ∃ q : Nat, q = k0 + 1 := ⟨_, rfl⟩
    have hb1 := stepB hb0 hk1
    obtain ⟨k2, hk2⟩ : ∃ q : Nat, q = k1 + 1 := ⟨_, rfl⟩
    have hb2 := stepB hb1 hk2
    obtain ⟨k3, hk3⟩ : ∃ q : Nat, q = k2 + 1 := ⟨_, rfl⟩
    have hb3 := stepB hb2 hk3
    obtain ⟨k4, hk4⟩ : ∃ q : Nat, q = k3 + 1 := ⟨_, rfl⟩
    have hb4 := stepB hb3 hk4
    obtain ⟨k5, hk5⟩ : ∃ q : Nat, q = k4 + 1 := ⟨_, rfl⟩
    have hb5 := stepB hb4 hk5
    obtain ⟨k6, hk6⟩ : ∃ q : Nat, q = k5 + 1 := ⟨_, rfl⟩
    have hb6 := stepB hb5 hk6
    obtain ⟨k7, hk7⟩ : ∃ q : Nat, q = k6 + 1 := ⟨_, rfl⟩
    have hb7 := stepB hb6 hk7
    obtain ⟨k8, hk8⟩ : ∃ q : Nat, q = k7 + 3 * es.length := ⟨_, rfl⟩
    have hb8 := stepB hb7 hk8
    obtain ⟨k9, hk9⟩ : ∃ q : Nat, q = k8 + 1 := ⟨_, rfl⟩
    have hb9 := stepB hb8 hk9
    have HX : mkM k0 ⟨kd, fr, dt, tm, ix, lt, cm, ok, es, ev⟩ = ⟨(k0 : Int), (k1 : Int), (k2 : Int), (k3 : Int), (k4 : Int), (k5 : Int), (k6 : Int), (m3 k8), (mkEs k7 es.length), ev⟩ := by
      subst hk1 hk2 hk3 hk4 hk5 hk6 hk7 hk8 hk9
      rfl
    rw [HX] at HN1
    have HKE : Hid (k9 = c + wtMs (l1 ++ [⟨kd, fr, dt, tm, ix, lt, cm, ok, es, ev⟩])) := hide (by have hk := unhide HK; rw [wtMs_app]; simp only [wtMs, wtM]; omega)
    have hsub := fun p hp => (unhide HN1).sub p (List.mem_flatMap.2 ⟨⟨(k0 : Int), (k1 : Int), (k2 : Int), (k3 : Int), (k4 : Int), (k5 : Int), (k6 : Int), (m3 k8), (mkEs k7 es.length), ev⟩, by simp, hp⟩)
    have HSub := hide hsub
    have HCell := hide (fun i q (hi : i < 9) (hq : q = j * 9 + i) => (Ns.cell (unhide HN1) j i q (unhide HM1) hi hq).1)
    have hw1 := wrapK0 hb0 (by decide)
    have hv1 := wrapK1 hb0 (by decide) hk1
    have hw2 := wrapK0 hb1 (by decide)
    have hv2 := wrapK1 hb1 (by decide) hk2
    have hw3 := wrapK0 hb2 (by decide)
    have hv3 := wrapK1 hb2 (by decide) hk3
    have hw4 := wrapK0 hb3 (by decide)
    have hv4 := wrapK1 hb3 (by decide) hk4
    have hw5 := wrapK0 hb4 (by decide)
    have hv5 := wrapK1 hb4 (by decide) hk5
    have hw6 := wrapK0 hb5 (by decide)
    have hv6 := wrapK1 hb5 (by decide) hk6
    have hw7 := wrapK0 hb6 (by decide)
    have hv7 := wrapK1 hb6 (by decide) hk7
    have he8 := castK3 hk8
    have hw9 := wrapK0 hb8 (hacc)
    have hv9 := wrapK1 hb8 (hacc) hk9
    have HE := hide he8
    clear HX hsub hk1 hk2 hk3 hk4 hk5 hk6 hk7 hk8 hk9 he8 HN1 HN
    have c0 : wr.cell? ⟨g, j * 9, none⟩ = some (.int .i64 (k0 : Int)) := ((unhide B0).cell (p := ⟨g, j * 9, none⟩) hlt0).trans (unhide HCell 0 _ (by omega) (by omega))
    have c1 : wr.cell? ⟨g, j * 9 + 1, none⟩ = some (.int .i64 (k1 : Int)) := ((unhide B0).cell (p := ⟨g, j * 9 + 1, none⟩) hlt0).trans (unhide HCell 1 _ (by omega) (by omega))
    have c2 : wr.cell? ⟨g, j * 9 + 2, none⟩ = some (.int .i64 (k2 : Int)) := ((unhide B0).cell (p := ⟨g, j * 9 + 2, none⟩) hlt0).trans (unhide HCell 2 _ (by omega) (by omega))
    have c3 : wr.cell? ⟨g, j * 9 + 3, none⟩ = some (.int .i64 (k3 : Int)) := ((unhide B0).cell (p := ⟨g, j * 9 + 3, none⟩) hlt0).trans (unhide HCell 3 _ (by omega) (by omega))
    have c4 : wr.cell? ⟨g, j * 9 + 4, none⟩ = some (.int .i64 (k4 : Int)) := ((unhide B0).cell (p := ⟨g, j * 9 + 4, none⟩) hlt0).trans (unhide HCell 4 _ (by omega) (by omega))
    have c5 : wr.cell? ⟨g, j * 9 + 5, none⟩ = some (.int .i64 (k5 : Int)) := ((unhide B0).cell (p := ⟨g, j * 9 + 5, none⟩) hlt0).trans (unhide HCell 5 _ (by omega) (by omega))
    have c6 : wr.cell? ⟨g, j * 9 + 6, none⟩ = some (.int .i64 (k6 : Int)) := ((unhide B0).cell (p := ⟨g, j * 9 + 6, none⟩) hlt0).trans (unhide HCell 6 _ (by omega) (by omega))
    have c7 : wr.cell? ⟨g, j * 9 + 7, none⟩ = some (ev) := ((unhide B0).cell (p := ⟨g, j * 9 + 7, none⟩) hlt0).trans (unhide HCell 7 _ (by omega) (by omega))
    have HC := hide (heldEntryS_any k7 hb7.2 (Nat.le_trans hb7.1 (by decide)) B ev es.length wr (OwnSub.kept (T := fun _ => False) (unhide HSub (ev, .E (mkEs k7 es.length)) (by simp [mgS, mgSubs])) (Touch.ofBelow (unhide B0)) (fun _ _ h => h)) hesl)
    rw [(unhide HE)] at HC
    have hneg8 := notNegK k8
    go_wp2_with fail
    refine (unhide HC).mono ?_
    rintro e v1 ⟨rfl, hb⟩
    have B1 := hide ((unhide B0).trans (hb.mono (unhide B0).size))
    clear hb HC B0 c0 c1 c2 c3 c4 c5 c6 c7
    obtain ⟨z3, hz3⟩ : ∃ z : Int, Int.tmod ((k8 : Nat) : Int) 3 = z := ⟨_, rfl⟩
    have hz4 : Hid (m3 k8 = (z3 == 0)) := hide (by unfold m3; rw [hz3])
    have c8 : v1.cell? ⟨g, j * 9 + 8, none⟩ = some (.bool (z3 == 0)) := ((unhide B1).cell (p := ⟨g, j * 9 + 8, none⟩) hlt0).trans ((unhide HCell 8 _ (by omega) (by omega)).trans (by rw [← unhide hz4]; rfl))
    go_wp2_with fail
    refine ⟨⟨l1 ++ [⟨kd, fr, dt, tm, ix, lt, cm, ok, es, ev⟩], l3, k9, j + 1, hide (by rw [unhide HL]; simp), by omega, hide (by rw [List.length_append, unhide HJ]; rfl), HKE, rfl, by go_num, B1⟩, ?_⟩
    simp [intOf]; omega
end Go.Proofs.Ytljolldacpkeeaa
