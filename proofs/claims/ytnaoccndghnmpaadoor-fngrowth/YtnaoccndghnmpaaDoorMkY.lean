/- spec.l06Both, spec.ConsistencyRoots. -/
import Derived.Test.YtnaoccndghnmpaaDoorMkX
namespace Go.Proofs.YtnaoccndghnmpaaDoor.Sha
open Go.ChangeShapes Go.WideShapes Go.ChangeAt Go.RowKit
set_option linter.unusedVariables false
set_option linter.unusedSimpArgs false

set_option maxRecDepth 100000 in
set_option maxHeartbeats 2000000 in
theorem l06Both_any : ∀ (n : Nat) (root : ByteArray) (m : Nat) (pr : List ByteArray) (kn : Bool) (q b off cap : Nat) (w : World), 1 ≤ m → m ≤ n → n ≤ 64 → pr.length = q → q ≤ 64 → root.size = 32 → AllH pr → SA w b off cap pr →
    Calls Tryd.prog 53 #[.int .i64 m, .int .i64 n, .string root, .slice (some ⟨b, off, none⟩) q cap, .bool kn] w fun e w' => e = .returned (.tuple #[.string (bothV root m n pr kn).1.1, .string (bothV root m n pr kn).1.2, .bool (bothV root m n pr kn).2]) ∧ Below w.heap.size w w' := by
  intro n
  induction n using Nat.strongRecOn with
  | ind n ih =>
    intro root m pr kn q b off cap w hm1 hmn0 hn hq hq2 hr ha hs
    have hcap : q ≤ cap := by have := hs.le; omega
    have hcm : cap ≤ 9223372036854775807 := by have := hs.mx; unfold maxLen at this; omega
    rcases (show m = n ∨ m < n by omega) with hmn | hmn
    · have HV := hide (bothV_all root n pr kn)
      rw [hq] at HV
      subst hmn
      cases kn
      · by_cases hq1 : q = 1
        · have c0 := hs.cell 0 (by omega)
          rw [Nat.add_zero] at c0
          rw [if_neg (by simp), if_pos hq1] at HV
          clear ih hr ha hs hq
          subst hq1
          generalize pr.getD 0 ByteArray.empty = x at *
          go_enter Tryd.func53, Tryd.ntmps53
          go_wp2_with fail
          go_quiet (fail)
          go_wp2_with fail
          refine bodyPost_ret (v := .tuple #[.string x, .string x, .bool true]) (by simp [results, Tryd.results53, go_sem]) rfl ?_
          exact ⟨by rw [unhide HV], below_drewN (Below.refl _ _) _⟩
        · rw [if_neg (by simp), if_neg hq1] at HV
          have hq3 : ¬ (q : Int) = 1 := by omega
          clear ih hr ha hs hq
          go_enter Tryd.func53, Tryd.ntmps53
          go_wp2_with fail
          refine bodyPost_ret (v := .tuple #[.string ⟨#[]⟩, .string ⟨#[]⟩, .bool false]) (by simp [results, Tryd.results53, go_sem]) rfl ?_
          exact ⟨by rw [unhide HV], Below.refl _ _⟩
      · rw [if_pos rfl] at HV
        clear ih hr ha hs hq
        by_cases hq0 : q = 0
        · subst hq0
          go_enter Tryd.func53, Tryd.ntmps53
          go_wp2_with fail
          refine bodyPost_ret (v := .tuple #[.string root, .string root, .bool true]) (by simp [results, Tryd.results53, go_sem]) rfl ?_
          exact ⟨by rw [unhide HV]; rfl, Below.refl _ _⟩
        · rw [decide_eq_false hq0] at HV
          have hq3 : ((q : Int) == 0) = false := beq_eq_false_iff_ne.2 (by omega)
          go_enter Tryd.func53, Tryd.ntmps53
          go_wp2_with fail
          refine bodyPost_ret (v := .tuple #[.string root, .string root, .bool false]) (by simp [results, Tryd.results53, go_sem]) rfl ?_
          exact ⟨by rw [unhide HV], Below.refl _ _⟩
    have h : 2 ≤ n := by omega
    by_cases hq0 : q = 0
    · have HV := hide (bothV_none (root := root) (m := m) (n := n) (pr := pr) (kn := kn) hmn h hn (by omega))
      have k6 : ¬ (m : Int) = (n : Int) := by omega
      clear ih hr ha hs hq
      subst hq0
      go_enter Tryd.func53, Tryd.ntmps53
      go_wp2_with fail
      refine bodyPost_ret (v := .tuple #[.string ⟨#[]⟩, .string ⟨#[]⟩, .bool false]) (by simp [results, Tryd.results53, go_sem]) rfl ?_
      exact ⟨by rw [unhide HV], Below.refl _ _⟩
    have hf := half_facts (n := n) h hn
    have HP := hide (l06Half_any n w h hn)
    have c0 := hs.cell (q - 1) (by omega)
    have hxs := ha (q - 1) (by omega)
    have et : (pr.take (q - 1)).length = q - 1 := by rw [List.length_take]; omega
    obtain ⟨j, hj⟩ : ∃ j : Nat, q = j + 1 := ⟨q - 1, by omega⟩
    by_cases hp : m ≤ half n
    · have HV := hide (bothV_lo (root := root) (m := m) (n := n) (pr := pr) (kn := kn) hmn h hn (by omega) hp)
      have HI := hide (ih (half n) (by omega) root m (pr.take (q - 1)) kn (q - 1) b off cap w hm1 hp (by omega) et (by omega) hr (ha.take _) (hs.take _ (by omega)))
      have z1 := both_size (half n) root m (pr.take (q - 1)) kn hm1 hp (by omega) hr (ha.take _)
      rw [hq] at HV
      clear ih hr ha hs hq et
      generalize pr.getD (q - 1) ByteArray.empty = x at *
      generalize (bothV root m (half n) (pr.take (q - 1)) kn).1.1 = u1 at *
      generalize (bothV root m (half n) (pr.take (q - 1)) kn).1.2 = u2 at *
      generalize (bothV root m (half n) (pr.take (q - 1)) kn).2 = u3 at *
      generalize half n = k at *
      subst hj
      simp only [Nat.add_sub_cancel] at *
      have HN := hide (fun wx => l06Node_le u2 x wx z1.2 (by omega))
      have k0 : (m : Int) ≤ (k : Int) := by omega
      have k1 : (0 : Int) ≤ (j : Int) := by omega
      have k2 : (j : Int) < ((j + 1 : Nat) : Int) := by omega
      have k3 : ((j + 1 : Nat) : Int) - 1 = (j : Int) := by omega
      have k4 : (j : Int) ≤ (cap : Int) := by omega
      have k5 : ¬ ((j + 1 : Nat) : Int) = 0 := by omega
      have k6 : ¬ (m : Int) = (n : Int) := by omega
      go_enter Tryd.func53, Tryd.ntmps53
      go_wp2_with fail
      refine (unhide HP).mono ?_
      rintro e w9 ⟨rfl, hw9⟩
      subst w9
      go_wp2_with fail
      refine (unhide HI).mono ?_
      rintro e w1 ⟨rfl, hb1⟩
      have B1 := hide hb1
      clear hb1 c0
      go_wp2_with fail
      refine (unhide HN w1).mono ?_
      rintro e w2 ⟨rfl, hb2⟩
      have B2 := hide ((unhide B1).trans (hb2.mono (unhide B1).size))
      clear hb2
      go_wp2_with fail
      refine bodyPost_ret (v := .tuple #[.string u1, .string (nodeV u2 x), .bool u3]) (by simp [results, Tryd.results53, go_sem]) rfl ?_
      exact ⟨by rw [unhide HV], unhide B2⟩
    · have HV := hide (bothV_hi (root := root) (m := m) (n := n) (pr := pr) (kn := kn) hmn h hn (by omega) hp)
      have HI := hide (ih (n - half n) (by omega) root (m - half n) (pr.take (q - 1)) false (q - 1) b off cap w (by omega) (by omega) (by omega) et (by omega) hr (ha.take _) (hs.take _ (by omega)))
      have z1 := both_size (n - half n) root (m - half n) (pr.take (q - 1)) false (by omega) (by omega) (by omega) hr (ha.take _)
      rw [hq] at HV
      clear ih hr ha hs hq et
      generalize pr.getD (q - 1) ByteArray.empty = x at *
      generalize (bothV root (m - half n) (n - half n) (pr.take (q - 1)) false).1.1 = u1 at *
      generalize (bothV root (m - half n) (n - half n) (pr.take (q - 1)) false).1.2 = u2 at *
      generalize (bothV root (m - half n) (n - half n) (pr.take (q - 1)) false).2 = u3 at *
      generalize half n = k at *
      obtain ⟨m2, hm2⟩ : ∃ q : Nat, q = m - k := ⟨_, rfl⟩
      obtain ⟨n2, hn2⟩ : ∃ n2 : Nat, n2 = n - k := ⟨_, rfl⟩
      have k7 : (m : Int) - (k : Int) = (m2 : Int) := by omega
      have k8 : (n : Int) - (k : Int) = (n2 : Int) := by omega
      rw [← hm2, ← hn2] at HI
      clear hm2 hn2
      subst hj
      simp only [Nat.add_sub_cancel] at *
      have HN := hide (fun wx => l06Node_le x u1 wx (by omega) z1.1)
      have HN2 := hide (fun wx => l06Node_le x u2 wx (by omega) z1.2)
      have k0 : ¬ (m : Int) ≤ (k : Int) := by omega
      have k1 : (0 : Int) ≤ (j : Int) := by omega
      have k2 : (j : Int) < ((j + 1 : Nat) : Int) := by omega
      have k3 : ((j + 1 : Nat) : Int) - 1 = (j : Int) := by omega
      have k4 : (j : Int) ≤ (cap : Int) := by omega
      have k5 : ¬ ((j + 1 : Nat) : Int) = 0 := by omega
      have k6 : ¬ (m : Int) = (n : Int) := by omega
      go_enter Tryd.func53, Tryd.ntmps53
      go_wp2_with fail
      refine (unhide HP).mono ?_
      rintro e w9 ⟨rfl, hw9⟩
      subst w9
      go_wp2_with fail
      refine (unhide HI).mono ?_
      rintro e w1 ⟨rfl, hb1⟩
      have B1 := hide hb1
      clear hb1 c0
      go_wp2_with fail
      refine (unhide HN w1).mono ?_
      rintro e w2 ⟨rfl, hb2⟩
      have B2 := hide ((unhide B1).trans (hb2.mono (unhide B1).size))
      clear hb2
      go_wp2_with fail
      refine (unhide HN2 w2).mono ?_
      rintro e w3 ⟨rfl, hb3⟩
      have B3 := hide ((unhide B2).trans (hb3.mono (unhide B2).size))
      clear hb3
      go_wp2_with fail
      refine bodyPost_ret (v := .tuple #[.string (nodeV x u1), .string (nodeV x u2), .bool u3]) (by simp [results, Tryd.results53, go_sem]) rfl ?_
      exact ⟨by rw [unhide HV], unhide B3⟩

/-- What ConsistencyRoots answers. -/
def crOut (m n : Int) (root : ByteArray) (pr : List ByteArray) : (ByteArray × ByteArray) × Int :=
  if mxI (hfC root) (codeL pr) = 0 then
    (if inB n 1 64 = true ∧ inB m 1 n = true then
      (if (bothV root m.toNat n.toNat pr true).2 = true then ((bothV root m.toNat n.toNat pr true).1, 0) else ((⟨#[]⟩, ⟨#[]⟩), 10))
    else ((⟨#[]⟩, ⟨#[]⟩), 4))
  else ((⟨#[]⟩, ⟨#[]⟩), mxI (hfC root) (codeL pr))
set_option maxRecDepth 100000 in
set_option maxHeartbeats 2000000 in
theorem specCR_any (m n : Int) (root : ByteArray) (pr : List ByteArray) (b off cap : Nat) (w : World) (hz : root.size ≤ 1048576) (hs : SA w b off cap pr) (hpz : ∀ i, (pr.getD i ByteArray.empty).size ≤ 1048576) :
    Calls Tryd.prog 20 #[.int .i64 m, .int .i64 n, .string root, .slice (some ⟨b, off, none⟩) pr.length cap] w fun e w' => e = .returned (.tuple #[.string (crOut m n root pr).1.1, .string (crOut m n root pr).1.2, .int .i64 (crOut m n root pr).2]) ∧ Below w.heap.size w w' := by
  have hle : pr.length ≤ 9223372036854775807 := by have := hs.le; have := hs.mx; unfold maxLen at this; omega
  have HO : Hid (crOut m n root pr = if mxI (hfC root) (codeL pr) = 0 then
    (if inB n 1 64 = true ∧ inB m 1 n = true then
      (if (bothV root m.toNat n.toNat pr true).2 = true then ((bothV root m.toNat n.toNat pr true).1, 0) else ((⟨#[]⟩, ⟨#[]⟩), 10))
    else ((⟨#[]⟩, ⟨#[]⟩), 4))
    else ((⟨#[]⟩, ⟨#[]⟩), mxI (hfC root) (codeL pr))) := rfl
  by_cases g1 : 65536 < root.size
  · have hw := worst_two (pr := pr) (.inl g1)
    rw [hw, if_neg (by omega)] at HO
    clear hs hpz
    go_enter Tryd.func20, Tryd.ntmps20
    go_wp2_with fail
    refine bodyPost_ret (v := .tuple #[.string ⟨#[]⟩, .string ⟨#[]⟩, .int .i64 2]) (by simp [results, Tryd.results20, go_sem]) rfl ?_
    exact ⟨by rw [unhide HO], Below.refl _ _⟩
  by_cases g2 : 4096 < pr.length
  · have hw := worst_two (leaf := root) (.inr g2)
    rw [hw, if_neg (by omega)] at HO
    clear hs hpz
    go_enter Tryd.func20, Tryd.ntmps20
    go_wp2_with fail
    refine bodyPost_ret (v := .tuple #[.string ⟨#[]⟩, .string ⟨#[]⟩, .int .i64 2]) (by simp [results, Tryd.results20, go_sem]) rfl ?_
    exact ⟨by rw [unhide HO], Below.refl _ _⟩
  have H2 := hide (l06Hashes_any pr b off cap w hs hpz)
  have HB := hide (worst_bad (leaf := root) (pr := pr) (by omega) (by omega))
  have HK := hide (fun h => worst_ok (leaf := root) (pr := pr) h (by omega))
  have HS := hide hs
  clear hs hpz
  generalize (decide (pr.length ≤ 64) && allH pr) = bb at *
  generalize mxI (hfC root) (codeL pr) = c at *
  go_enter Tryd.func20, Tryd.ntmps20
  go_wp2_with fail
  refine (unhide H2).mono ?_
  rintro e w9 ⟨rfl, hw⟩
  subst w9
  cases bb
  · have hc := unhide HB (.inl rfl)
    subst hc
    rw [if_neg (by omega)] at HO
    go_wp2_with fail
    refine bodyPost_ret (v := .tuple #[.string ⟨#[]⟩, .string ⟨#[]⟩, .int .i64 1]) (by simp [results, Tryd.results20, go_sem]) rfl ?_
    exact ⟨by rw [unhide HO], Below.refl _ _⟩
  rcases (show ¬ root.size = 32 ∨ root.size = 32 by omega) with h32 | h32
  · have hc := unhide HB (.inr h32)
    subst hc
    rw [if_neg (by omega)] at HO
    have h4 : (root.size : Int) ≠ 32 := by omega
    go_wp2_with fail
    refine bodyPost_ret (v := .tuple #[.string ⟨#[]⟩, .string ⟨#[]⟩, .int .i64 1]) (by simp [results, Tryd.results20, go_sem]) rfl ?_
    exact ⟨by rw [unhide HO], Below.refl _ _⟩
  obtain ⟨hc, hpl, hah⟩ := unhide HK h32 rfl
  subst hc
  rw [if_pos rfl] at HO
  have HAH := hide hah
  clear HB HK H2 hah
  have I1 := hide (l01In_any n 1 64 w)
  have I2 := hide (inB_iff (n := n) (lo := 1) (hi := 64))
  generalize inB n 1 64 = b1 at *
  go_wp2_with fail
  refine (unhide I1).mono ?_
  rintro e w9 ⟨rfl, hw⟩
  subst w9
  cases b1
  · rw [if_neg (by simp)] at HO
    go_wp2_with fail
    refine bodyPost_ret (v := .tuple #[.string ⟨#[]⟩, .string ⟨#[]⟩, .int .i64 4]) (by simp [results, Tryd.results20, go_sem]) rfl ?_
    exact ⟨by rw [unhide HO], Below.refl _ _⟩
  obtain ⟨n0, n1⟩ := (unhide I2).1 rfl
  have I3 := hide (l01In_any m 1 n w)
  have I4 := hide (inB_iff (n := m) (lo := 1) (hi := n))
  generalize inB m 1 n = b2 at *
  go_wp2_with fail
  refine (unhide I3).mono ?_
  rintro e w9 ⟨rfl, hw⟩
  subst w9
  cases b2
  · rw [if_neg (by simp)] at HO
    go_wp2_with fail
    refine bodyPost_ret (v := .tuple #[.string ⟨#[]⟩, .string ⟨#[]⟩, .int .i64 4]) (by simp [results, Tryd.results20, go_sem]) rfl ?_
    exact ⟨by rw [unhide HO], Below.refl _ _⟩
  obtain ⟨p0, p1⟩ := (unhide I4).1 rfl
  rw [if_pos (by simp)] at HO
  obtain ⟨mn, rfl⟩ : ∃ q : Nat, m = (q : Int) := ⟨m.toNat, by omega⟩
  obtain ⟨nn, rfl⟩ : ∃ q : Nat, n = (q : Int) := ⟨n.toNat, by omega⟩
  rw [Int.toNat_natCast, Int.toNat_natCast] at HO
  have HU := hide (l06Both_any nn root mn pr true pr.length b off cap w (by omega) (by omega) (by omega) rfl hpl h32 (unhide HAH) (unhide HS))
  clear I1 I2 I3 I4
  generalize bothV root mn nn pr true = u at *
  obtain ⟨⟨u1, u2⟩, u3⟩ := u
  dsimp only at HU HO
  go_wp2_with fail
  refine (unhide HU).mono ?_
  rintro e w2 ⟨rfl, hb2⟩
  have B2 := hide hb2
  clear hb2 HU
  cases u3
  · rw [if_neg (by simp)] at HO
    go_wp2_with fail
    refine bodyPost_ret (v := .tuple #[.string ⟨#[]⟩, .string ⟨#[]⟩, .int .i64 10]) (by simp [results, Tryd.results20, go_sem]) rfl ?_
    exact ⟨by rw [unhide HO], unhide B2⟩
  · rw [if_pos rfl] at HO
    go_wp2_with fail
    refine bodyPost_ret (v := .tuple #[.string u1, .string u2, .int .i64 0]) (by simp [results, Tryd.results20, go_sem]) rfl ?_
    exact ⟨by rw [unhide HO], unhide B2⟩
end Go.Proofs.YtnaoccndghnmpaaDoor.Sha
