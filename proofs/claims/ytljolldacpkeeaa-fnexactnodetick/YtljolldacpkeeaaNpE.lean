/- The closure of (leader).commit and (*actor).most with it, walked. -/
import Derived.Test.YtljolldacpkeeaaNpD
import Derived.Test.YtljolldacpkeeaaNodM
import Derived.Test.YtljolldacpkeeaaNodU
namespace Go.Proofs.Ytljolldacpkeeaa
open Go.ChangeShapes Go.WideShapes Go.ChangeAt Go.RowKit Go.Deep
set_option linter.unusedVariables false
set_option linter.unusedSimpArgs false

/-- A member has a place: it is the leader itself, or is known to have it. -/
def hasP (id : Int) (mt : List Int) (p x : Int) : Bool := (x == id) || decide (p ≤ mt.getD x.toNat 0)
set_option maxRecDepth 100000 in
set_option maxHeartbeats 1500000 in
theorem commit1_any (b lb pb : Nat) (id p : Int) (d : Nat) (ma : Option Addr) (mc : Nat) (mt : List Int) (w : World) (hl : w.cell? ⟨lb, 0, none⟩ = some (.pointer (some ⟨b, 0, none⟩))) (h0 : w.cell? ⟨b, 0, none⟩ = some (.int .i64 id)) (h8 : w.cell? ⟨b, 8, none⟩ = some (.slice ma mt.length mc)) (hM : Ints w (.slice ma mt.length mc) mt) (hp : w.cell? ⟨pb, 0, none⟩ = some (.int .i64 p)) (hd : d < mt.length) :
    Calls Try.prog 86 #[.int .i64 (d : Int), .pointer (some ⟨lb, 0, none⟩), .pointer (some ⟨pb, 0, none⟩)] w fun e w' => e = .returned (.bool (hasP id mt p (d : Int))) ∧ Below w.heap.size w w' := by
  obtain ⟨a', c', e', hm', hc'⟩ := hM
  simp only [Value.slice.injEq] at e'
  obtain ⟨rfl, _, rfl⟩ := e'
  obtain ⟨nb, noff, rfl, hnb, hns0⟩ : ∃ b off, ma = some ⟨b, off, none⟩ ∧ b < w.heap.size ∧ ∀ i, i < mt.length → World.cell? w ⟨b, off + i, none⟩ = some (.int .i64 (mt.getD i 0)) := by
    rcases hc' with h0 | h1
    · omega
    · exact h1
  clear hc' hm'
  have c0 := hns0 d hd
  have HU : Hid (hasP id mt p (d : Int) = (((d : Int) == id) || decide (p ≤ mt.getD d 0))) := hide (by unfold hasP; rw [Int.toNat_natCast])
  have g1 : (0 : Int) ≤ (d : Int) := by omega
  have g2 : (d : Int) < (mt.length : Int) := by omega
  generalize mt.getD d 0 = z at *
  generalize hasP id mt p (d : Int) = R at *
  clear hns0 hd hnb
  by_cases h2 : (d : Int) = id
  · have h3 : decide ((d : Int) = id) = true := decide_eq_true h2
    have h4 : ((d : Int) == id) = true := by rw [h2]; simp
    have E : Hid (R = true) := hide (by rw [unhide HU, h4]; rfl)
    clear h2 HU
    go_enter Try.func86, Try.ntmps86
    go_wp2_with fail
    go_quiet (fail)
    go_wp2_with fail
    go_ret
    exact ⟨ret_bool (unhide E).symm, below_drewN (Below.refl _ _) _⟩
  · have h3 : decide ((d : Int) = id) = false := decide_eq_false h2
    have h4 : ((d : Int) == id) = false := by rw [beq_eq_false_iff_ne]; exact h2
    have E : Hid (R = decide (p ≤ z)) := hide (by rw [unhide HU, h4]; rfl)
    clear HU
    go_enter Try.func86, Try.ntmps86
    go_wp2_with fail
    go_quiet (fail)
    go_wp2_with fail
    all_goals
      go_ret
      exact ⟨ret_bool (by rw [unhide E]), below_drewN (Below.refl _ _) _⟩
set_option maxRecDepth 100000 in
set_option maxHeartbeats 2000000 in
theorem mostC_any (B b lb pb : Nat) (a : Option Addr) (c : Nat) (sa : Option Addr) (sc : Nat) (ma : Option Addr) (mc : Nat) (id p : Int) (lg : List En) (st mt : List Int) (hz : ∀ i, (lg.getD i default).d.size ≤ maxLen) (hl : lg.length ≤ 1048576) (hg : CfgOK lg) (w : World) (hb : b < w.heap.size) (hlb : lb < w.heap.size) (hpb : pb < w.heap.size) (h3 : w.cell? ⟨b, 3, none⟩ = some (.slice a lg.length c)) (h4 : w.cell? ⟨b, 4, none⟩ = some (.slice sa st.length sc)) (hE : Ens w (.slice a lg.length c) lg) (hO : OwnI B w (.slice sa st.length sc) st) (hB : B ≤ w.heap.size) (hlc : w.cell? ⟨lb, 0, none⟩ = some (.pointer (some ⟨b, 0, none⟩))) (h0 : w.cell? ⟨b, 0, none⟩ = some (.int .i64 id)) (h8 : w.cell? ⟨b, 8, none⟩ = some (.slice ma mt.length mc)) (hM : Ints w (.slice ma mt.length mc) mt) (hp : w.cell? ⟨pb, 0, none⟩ = some (.int .i64 p)) (hmt : mt.length = 7) (hmb : (mbAt lg st lg.length).length ≤ 7) (hin : ∀ d ∈ mbAt lg st lg.length, 0 ≤ d ∧ d < 7) :
    Calls Try.prog 73 #[.pointer (some ⟨b, 0, none⟩), .func (.func 86) #[] #[.pointer (some ⟨lb, 0, none⟩), .pointer (some ⟨pb, 0, none⟩)]] w fun e w' => e = .returned (.bool (mostB (hasP id mt p) (mbAt lg st lg.length))) ∧ Below w.heap.size w w' := by
  have HMem := hide (members_any B b a c sa sc lg st hz hl hg w hb h3 h4 hE hO hB)
  have HCl := hide (fun wx (d : Nat) (hd : d < 7) (hx : Below w.heap.size w wx) => commit1_any b lb pb id p d ma mc mt wx ((hx.cell (p := ⟨lb, 0, none⟩) hlb).trans hlc) ((hx.cell (p := ⟨b, 0, none⟩) hb).trans h0) ((hx.cell (p := ⟨b, 8, none⟩) hb).trans h8) (hM.below hx) ((hx.cell (p := ⟨pb, 0, none⟩) hpb).trans hp) (by omega))
  generalize mbAt lg st lg.length = mb at *
  have HIN := hide hin
  have HS := hide (cntTo_succ (hasP id mt p) mb)
  have HL := hide (cntTo_le (hasP id mt p) mb)
  have HMo : Hid (mostB (hasP id mt p) mb = decide (mb.length < 2 * cntTo (hasP id mt p) mb mb.length)) := hide rfl
  have H0 : Hid (cntTo (hasP id mt p) mb 0 = 0) := hide (by simp [cntTo])
  generalize mostB (hasP id mt p) mb = R at *
  generalize cntTo (hasP id mt p) mb = C at *
  generalize hasP id mt p = has at *
  clear hz hl hg hb hlb hpb h3 h4 hE hO hB hlc h0 h8 hM hp hmt hin
  go_enter Try.func73, Try.ntmps73
  go_wp2_with fail
  refine (unhide HMem).mono ?_
  rintro e w1 ⟨v, rfl, hv, hb1⟩
  obtain ⟨av, cv, rfl, hmv, hcv⟩ := hv.ints
  have HCV := hide hcv
  have HB1 := hide hb1
  clear hcv hmv hv hb1 HMem
  go_wp2_with fail
  go_loopw [5, 13] (fun x i wr => ∃ (k n : Nat), k ≤ mb.length ∧ i = .int .i64 (k : Int) ∧ x = .int .i64 (n : Int) ∧ Hid (n = C k) ∧ Hid (Below w1.heap.size w1 wr)) (fun _ i _ => mb.length - (intOf i).toNat)
  case atStart => exact ⟨0, 0, Nat.zero_le _, rfl, rfl, hide (unhide H0).symm, hide (Below.refl _ _)⟩
  case round =>
    obtain ⟨k, n, hk, rfl, rfl, HN, HBk⟩ := hrel
    have hnl := unhide HL k
    rw [← unhide HN] at hnl
    by_cases hlt : k < mb.length
    · obtain ⟨bq, off, rfl, hbl, hsrc⟩ : ∃ b off, av = some ⟨b, off, none⟩ ∧ b < w1.heap.size ∧ ∀ i, i < mb.length → w1.cell? ⟨b, off + i, none⟩ = some (.int .i64 (mb.getD i 0)) := by
        rcases unhide HCV with h0 | h1
        · omega
        · exact h1
      have c0 := ((unhide HBk).cell (p := ⟨bq, off + k, none⟩) hbl).trans (hsrc k hlt)
      have hdk := unhide HIN (mb.getD k 0) (by rw [List.getD_eq_getElem?_getD, List.getElem?_eq_getElem hlt]; simp)
      have HSk := hide (unhide HS k hlt)
      rw [← unhide HN] at HSk
      clear hsrc
      generalize mb.getD k 0 = t at *
      obtain ⟨d, rfl⟩ : ∃ d : Nat, t = (d : Int) := ⟨t.toNat, by omega⟩
      have HC := hide (unhide HCl wr d (by omega) ((unhide HB1).trans ((unhide HBk).mono (unhide HB1).size)))
      have hk0 : (0 : Int) ≤ (k : Int) := by omega
      have hk1 : (k : Int) < (mb.length : Int) := by omega
      have q1 : IntKind.i64.wrap ((n : Int) + 1) = (n : Int) + 1 := wrapSm _ (by omega) (by omega)
      have q2 : IntKind.i64.wrap ((k : Int) + 1) = (k : Int) + 1 := wrapSm _ (by omega) (by omega)
      generalize has (d : Int) = r at *
      go_wp2_with fail
      refine (unhide HC).mono ?_
      rintro e w2 ⟨rfl, hb2⟩
      have HB2 := hide ((unhide HBk).trans (hb2.mono (unhide HBk).size))
      clear hb2
      cases r
      · have E := hide (show n = C (k + 1) by rw [unhide HSk]; simp)
        go_wp2_with fail
        refine ⟨⟨k + 1, n, by omega, by go_num, rfl, E, HB2⟩, ?_⟩
        simp [intOf] <;> omega
      · have E := hide (show n + 1 = C (k + 1) by rw [unhide HSk]; simp)
        go_wp2_with fail
        refine ⟨⟨k + 1, n + 1, by omega, by go_num, by go_num, E, HB2⟩, ?_⟩
        simp [intOf] <;> omega
    · obtain rfl : k = mb.length := by omega
      have E : Hid (R = decide (mb.length < 2 * n)) := hide (by rw [unhide HMo, unhide HN])
      have q1 : IntKind.i64.wrap (2 * (n : Int)) = 2 * (n : Int) := wrapSm _ (by omega) (by omega)
      go_wp2_with fail
      all_goals
        go_ret
        exact ⟨ret_bool (by rw [unhide E]; first | rfl | (rw [Bool.eq_iff_iff]; simp only [decide_eq_true_eq]; omega)), (unhide HB1).trans ((unhide HBk).mono (unhide HB1).size)⟩
end Go.Proofs.Ytljolldacpkeeaa
