/- The laws' marks in branches, found again: heldBranchS, heldBranch. -/
import Derived.Test.YtcmdilmjdnbfkaaDoorBrX
namespace Go.Proofs.YtcmdilmjdnbfkaaDoor.Sha
open Go.ChangeShapes Go.WideShapes Go.ChangeAt Go.RowKit
set_option linter.unusedVariables false
set_option linter.unusedSimpArgs false

set_option maxRecDepth 100000 in
set_option maxHeartbeats 4000000 in
theorem heldBranchS_any {S : Nat → Prop} {w0 : World} {v : Value} {L : List Br} (h : Brs S w0 v L) : ∀ (k : Nat) (l : List Br) (w : World), L = markL k l → Below w0.heap.size w0 w → 0 < k → k + 3 * cntL l ≤ 8388608 →
    Calls Tryd.prog 58 #[v, .int .i64 k] w fun e w' => e = .returned (.int .i64 ((k + 3 * cntL l : Nat) : Int)) ∧ Below w.heap.size w w' := by
  induction h with
  | nil a cap hc =>
    intro k l w hl hb0 hk0 hk1
    obtain rfl : l = [] := List.eq_nil_of_length_eq_zero (by rw [← markL_len k l, ← hl]; rfl)
    have hc0 : k + 3 * cntL [] = k := by unfold cntL; omega
    rw [hc0]
    clear hb0 hc hl hk1 hc0
    go_enter Tryd.func58, Tryd.ntmps58
    go_wp2_with fail
    go_loopw [1, 5] (fun kk i wr => kk = .int .i64 (k : Int) ∧ i = .int .i64 0 ∧ wr = w) (fun _ _ _ => 0)
    case atStart => exact ⟨rfl, rfl, rfl⟩
    case round =>
      obtain ⟨rfl, rfl, hwr⟩ := hrel
      subst wr
      go_wp2_with fail
      go_ret
      exact ⟨rfl, Below.refl _ _⟩
  | row b off cap L kv p0 p1 p2 p3 p4 p5 p6 p7 ih =>
    intro k l w hl hb0 hk0 hk1
    have HC := hide (BrAt.mk p3 p4 p5 p6 p7 : BrAt S w0 b off L kv)
    have HI := hide ih
    have HB0 := hide hb0
    have hlen : L.length = l.length := by rw [hl, markL_len]
    have HMG := hide (fun i (hi : i < l.length) => show L.getD i default = markB (k + 3 * cntL (l.take i)) (l.getD i default) by rw [hl]; exact markL_get l k i hi)
    have hlm : l.length ≤ 9223372036854775807 := by unfold maxLen at p2; omega
    rw [hlen]
    have HCT := hide (fun i => cnt_take_le l i)
    clear p3 p4 p5 p6 p7 ih hb0 p1 p2 hl
    go_enter Tryd.func58, Tryd.ntmps58
    go_wp2_with fail
    go_loopw [1, 5] (fun kk i wr => ∃ j : Nat, j ≤ l.length ∧ kk = .int .i64 ((k + 3 * cntL (l.take j) : Nat) : Int) ∧ i = .int .i64 j ∧ Below w.heap.size w wr) (fun _ i _ => l.length - (intOf i).toNat)
    case atStart => exact ⟨0, Nat.zero_le _, by simp [cntL], rfl, Below.refl _ _⟩
    case round =>
      obtain ⟨j, hj, rfl, rfl, hb⟩ := hrel
      by_cases hlt : j < l.length
      · have hltL : j < L.length := by omega
        obtain ⟨s0, s1, s2, s3⟩ := (unhide HC).cells j hltL
        have hbl := (unhide HC).lt
        have hb00 := (unhide HB0).trans (hb.mono (unhide HB0).size)
        have hmb := markB_key (k + 3 * cntL (l.take j)) (l.getD j default)
        have hct := cnt_take l j hlt
        have hcl := unhide HCT (j + 1)
        have hce := Br.cnt_eq (l.getD j default)
        obtain ⟨ka, kc, hkv, _, _⟩ := ((unhide HC).kids j hltL).shape
        have HR := hide (fun wx (hx : Below w0.heap.size w0 wx) => unhide HI j hltL (k + 3 * cntL (l.take j) + 3) (l.getD j default).kids wx (by rw [unhide HMG j hlt]; exact hmb.2.2.2) hx (by omega) (by omega))
        rw [hkv] at HR s3
        rw [unhide HMG j hlt, hmb.2.2.2, markL_len] at s3 HR
        rw [unhide HMG j hlt, hmb.1] at s0
        rw [unhide HMG j hlt, hmb.2.1] at s1
        rw [unhide HMG j hlt, hmb.2.2.1] at s2
        have hnext : k + 3 * cntL (l.take j) + 3 + 3 * cntL (l.getD j default).kids = k + 3 * cntL (l.take (j + 1)) := by omega
        rw [hnext] at HR
        obtain ⟨q, hq⟩ : ∃ q, q = k + 3 * cntL (l.take j) := ⟨_, rfl⟩
        obtain ⟨nx, hnx⟩ : ∃ nx, nx = k + 3 * cntL (l.take (j + 1)) := ⟨_, rfl⟩
        rw [← hnx] at HR
        rw [← hq] at s0 s1 s2 HR ⊢
        have hq0 : 0 < q := by omega
        have hq1 : q + 3 ≤ 8388608 := by omega
        have HNX := hide hnx
        have c0 := (hb00.cell (p := ⟨b, off + j * 4, none⟩) hbl).trans s0
        have c1 := (hb00.cell (p := ⟨b, off + j * 4 + 1, none⟩) hbl).trans s1
        have c2 := (hb00.cell (p := ⟨b, off + j * 4 + 2, none⟩) hbl).trans s2
        have c3 := (hb00.cell (p := ⟨b, off + j * 4 + 3, none⟩) hbl).trans s3
        have hk0' : (0 : Int) ≤ (j : Int) := by omega
        have hk1' : (j : Int) < (l.length : Int) := by omega
        have hz1 : b < wr.heap.size := Nat.lt_of_lt_of_le hbl hb00.size
        have HB := hide hb
        have HB00 := hide hb00
        have w1a : IntKind.i64.wrap ((q : Int) + 1) = ((q + 1 : Nat) : Int) := by simp only [IntKind.wrap, IntKind.bits, IntKind.signed]; simp; omega
        have w2a : IntKind.i64.wrap (((q + 1 : Nat) : Int) + 1) = ((q + 2 : Nat) : Int) := by simp only [IntKind.wrap, IntKind.bits, IntKind.signed]; simp; omega
        have w3a : IntKind.i64.wrap (((q + 2 : Nat) : Int) + 1) = ((q + 3 : Nat) : Int) := by simp only [IntKind.wrap, IntKind.bits, IntKind.signed]; simp; omega
        clear hb00 s0 s1 s2 s3 hb hkv hbl hmb hct hcl hce hnext hnx hq hk1
        generalize hq1n : q + 1 = qa at *
        generalize hq2n : q + 2 = qb at *
        generalize hq3n : q + 3 = qc at *
        have HQN := hide (And.intro hq1n (And.intro hq2n hq3n))
        clear hq1n hq2n hq3n
        generalize (l.getD j default).kids.length = fn at *
        obtain ⟨m0, hm0⟩ : ∃ m0, m0 = mtx q := ⟨_, rfl⟩
        obtain ⟨m1, hm1⟩ : ∃ m1, m1 = mtx qa := ⟨_, rfl⟩
        have MT0 := hide (fun wx => markText_int (q : Int) q rfl wx (by omega) (by have := (unhide HQN).2.2; omega))
        have MT1 := hide (fun wx => markText_int (qa : Int) qa rfl wx (by have := (unhide HQN).1; omega) (by have := (unhide HQN).1; have := (unhide HQN).2.2; omega))
        rw [← hm0] at MT0 c0
        rw [← hm1] at MT1 c1
        clear hm0 hm1
        go_wp2_with fail
        go_region_held3 (fun wx => wx.cell? ⟨b, off + j * 4, none⟩ = some (.string m0)) (first | go_keep | exact (hb2.cell (p := ⟨b, off + j * 4, none⟩) hz1).trans c0) ((go_at_call 72; refine (unhide MT0 _).mono ?_; rintro e w2 ⟨rfl, hb2⟩))
        all_goals
          have hb2' : Below wr.heap.size wr w2 := (below_drewN (Below.refl _ wr) 1).trans hb2
          have d1 := (hb2'.cell (p := ⟨b, off + j * 4 + 1, none⟩) hz1).trans c1
          have d2 := (hb2'.cell (p := ⟨b, off + j * 4 + 2, none⟩) hz1).trans c2
          have d3 := (hb2'.cell (p := ⟨b, off + j * 4 + 3, none⟩) hz1).trans c3
          have hz2 : b < w2.heap.size := Nat.lt_of_lt_of_le hz1 hb2'.size
          have HB2 := hide ((unhide HB).trans (hb2'.mono (unhide HB).size))
          have HB02 := hide ((unhide HB00).trans (hb2'.mono (unhide HB00).size))
          clear hb2 hb2' c0 c1 c2 c3 HB HB00
          go_wp2_with fail
          go_region_held3 (fun wx => wx.cell? ⟨b, off + j * 4 + 1, none⟩ = some (.string m1)) (first | go_keep | exact (hb3.cell (p := ⟨b, off + j * 4 + 1, none⟩) hz2).trans d1) ((go_at_call 72; refine (unhide MT1 _).mono ?_; rintro e w3 ⟨rfl, hb3⟩))
          all_goals
            have hb3' : Below w2.heap.size w2 w3 := (below_drewN (Below.refl _ w2) 1).trans hb3
            have e2 := (hb3'.cell (p := ⟨b, off + j * 4 + 2, none⟩) hz2).trans d2
            have e3 := (hb3'.cell (p := ⟨b, off + j * 4 + 3, none⟩) hz2).trans d3
            have HB3 := hide ((unhide HB2).trans (hb3'.mono (unhide HB2).size))
            have HB03 := hide ((unhide HB02).trans (hb3'.mono (unhide HB02).size))
            clear hb3 hb3' d1 d2 d3 HB2 HB02
            go_wp2_with fail
            refine (unhide HR w3 (unhide HB03)).mono ?_
            rintro e w4 ⟨rfl, hb4⟩
            have HB4 := hide ((unhide HB3).trans (hb4.mono (unhide HB3).size))
            clear hb4 HB3 HB03 e2 e3
            have hnn : ¬ (nx : Int) < 0 := by omega
            go_wp2_with fail
            refine ⟨⟨j + 1, by omega, by rw [unhide HNX], by go_num, unhide HB4⟩, ?_⟩
            simp [intOf]; omega
      · obtain rfl : j = l.length := by omega
        have HB := hide hb
        clear hb
        rw [List.take_length]
        go_wp2_with fail
        go_ret
        exact ⟨rfl, unhide HB⟩
set_option maxRecDepth 100000 in
set_option maxHeartbeats 1000000 in
theorem heldBranch_any (k v : ByteArray) (at_ : Int) (a : Option Addr) (n cap : Nat) {S : Nat → Prop} {w : World} {l : List Br} (h : Brs S w (.slice a n cap) (markL 1 l)) (hc : 1 + 3 * cntL l ≤ 8388608) :
    Calls Tryd.prog 24 #[.agg #[.string k, .string v, .int .i64 at_, .slice a n cap], .int .i64 1] w fun e w' => e = .returned (.int .i64 ((1 + 3 * cntL l : Nat) : Int)) ∧ Below w.heap.size w w' := by
  have B1 := hide ((Below.refl w.heap.size w).alloc (Nat.le_refl _) (.cells #[.string k, .string v, .int .i64 at_, .slice a n cap] 37))
  have HE := hide (heldBranchS_any h 1 l _ rfl (unhide B1) (by omega) hc)
  clear h
  generalize 1 + 3 * cntL l = m at *
  go_enter Tryd.func24, Tryd.ntmps24
  go_wp2_with fail
  refine (unhide HE).mono ?_
  rintro e w2 ⟨rfl, hb2⟩
  have B2 := hide ((unhide B1).trans (hb2.mono (unhide B1).size))
  clear hb2 HE
  have hn : ¬ (m : Int) < 0 := by omega
  go_wp2_with fail
  go_ret
  exact ⟨rfl, unhide B2⟩
end Go.Proofs.YtcmdilmjdnbfkaaDoor.Sha
