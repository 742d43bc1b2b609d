/- (*actor).hasVoteOf, (*actor).most with it, (*actor).plea, walked. -/
import Derived.Test.YtljolldacpkeeaaNpI
import Derived.Test.YtljolldacpkeeaaNpA
import Derived.Test.YtljolldacpkeeaaCfA
namespace Go.Proofs.Ytljolldacpkeeaa
open Go.ChangeShapes Go.WideShapes Go.ChangeAt Go.RowKit Go.Deep
set_option linter.unusedVariables false
set_option linter.unusedSimpArgs false

set_option maxRecDepth 100000 in
theorem hasVoteOf_any (b : Nat) (va : Option Addr) (vc : Nat) (vs : List Int) (x : Int) (w : World) (h6 : w.cell? ⟨b, 6, none⟩ = some (.slice va vs.length vc)) (hV : Ints w (.slice va vs.length vc) vs) (hl : vs.length ≤ 1048576) :
    Calls Try.prog 74 #[.pointer (some ⟨b, 0, none⟩), .int .i64 x] w fun e w' => e = .returned (.bool (decide (x ∈ vs))) ∧ w' = w := by
  have HC := hide (containsInt_any (.slice va vs.length vc) vs x w hV hl)
  generalize decide (x ∈ vs) = R at *
  clear hV hl
  go_enter Try.func74, Try.ntmps74
  go_wp2_with fail
  refine (unhide HC).mono ?_
  rintro e w' ⟨rfl, hw⟩
  subst hw
  go_wp2_with fail
  go_ret
  exact ⟨rfl, rfl⟩
set_option maxRecDepth 100000 in
set_option maxHeartbeats 2000000 in
theorem mostV_any (B b : Nat) (a : Option Addr) (c : Nat) (sa : Option Addr) (sc : Nat) (va : Option Addr) (vc : Nat) (lg : List En) (st vs : List Int) (hz : ∀ i, (lg.getD i default).d.size ≤ maxLen) (hl : lg.length ≤ 1048576) (hg : CfgOK lg) (w : World) (hb : b < w.heap.size) (h3 : w.cell? ⟨b, 3, none⟩ = some (.slice a lg.length c)) (h4 : w.cell? ⟨b, 4, none⟩ = some (.slice sa st.length sc)) (hE : Ens w (.slice a lg.length c) lg) (hO : OwnI B w (.slice sa st.length sc) st) (hB : B ≤ w.heap.size) (h6 : w.cell? ⟨b, 6, none⟩ = some (.slice va vs.length vc)) (hV : Ints w (.slice va vs.length vc) vs) (hvl : vs.length ≤ 1000) (hmb : (mbAt lg st lg.length).length ≤ 7) (hin : ∀ d ∈ mbAt lg st lg.length, 0 ≤ d ∧ d < 7) :
    Calls Try.prog 73 #[.pointer (some ⟨b, 0, none⟩), .func (.func 74) #[.pointer (some ⟨b, 0, none⟩)] #[]] w fun e w' => e = .returned (.bool (mostB ((fun x => decide (x ∈ vs))) (mbAt lg st lg.length))) ∧ Below w.heap.size w w' := by
  have HMem := hide (members_any B b a c sa sc lg st hz hl hg w hb h3 h4 hE hO hB)
  have HCl := hide (fun wx (d : Nat) (hd : d < 7) (hx : Below w.heap.size w wx) => hasVoteOf_any b va vc vs (d : Int) wx ((hx.cell (p := ⟨b, 6, none⟩) hb).trans h6) (hV.below hx) (by omega))
  generalize mbAt lg st lg.length = mb at *
  have HIN := hide hin
  have HS := hide (cntTo_succ ((fun x => decide (x ∈ vs))) mb)
  have HL := hide (cntTo_le ((fun x => decide (x ∈ vs))) mb)
  have HMo : Hid (mostB ((fun x => decide (x ∈ vs))) mb = decide (mb.length < 2 * cntTo ((fun x => decide (x ∈ vs))) mb mb.length)) := hide rfl
  have H0 : Hid (cntTo ((fun x => decide (x ∈ vs))) mb 0 = 0) := hide (by simp [cntTo])
  generalize mostB ((fun x => decide (x ∈ vs))) mb = R at *
  generalize cntTo ((fun x => decide (x ∈ vs))) mb = C at *
  generalize hhas : (fun x : Int => decide (x ∈ vs)) = has at *
  have HHAS := hide (fun x : Int => (congrFun hhas x : decide (x ∈ vs) = has x))
  clear hhas
  clear hz hl hg hb h3 h4 hE hO hB h6 hV hvl hin
  go_enter Try.func73, Try.ntmps73
  go_wp2_with fail
  refine (unhide HMem).mono ?_
  rintro e w1 ⟨v, rfl, hv, hb1⟩
  obtain ⟨av, cv, rfl, hmv, hcv⟩ := hv.ints
  have HCV := hide hcv
  have HB1 := hide hb1
  clear hcv hmv hv hb1 HMem
  go_wp2_with fail
  go_loopw [5, 13] (fun x i wr => ∃ (k n : Nat), k ≤ mb.length ∧ i = .int .i64 (k : Int) ∧ x = .int .i64 (n : Int) ∧ Hid (n = C k) ∧ Hid (Below w1.heap.size w1 wr)) (fun _ i _ => mb.length - (intOf i).toNat)
  case atStart => exact ⟨0, 0, Nat.zero_le _, rfl, rfl, hide (unhide H0).symm, hide (Below.refl _ _)⟩
  case round =>
    obtain ⟨k, n, hk, rfl, rfl, HN, HBk⟩ := hrel
    have hnl := unhide HL k
    rw [← unhide HN] at hnl
    by_cases hlt : k < mb.length
    · obtain ⟨bq, off, rfl, hbl, hsrc⟩ : ∃ b off, av = some ⟨b, off, none⟩ ∧ b < w1.heap.size ∧ ∀ i, i < mb.length → w1.cell? ⟨b, off + i, none⟩ = some (.int .i64 (mb.getD i 0)) := by
        rcases unhide HCV with h0 | h1
        · omega
        · exact h1
      have c0 := ((unhide HBk).cell (p := ⟨bq, off + k, none⟩) hbl).trans (hsrc k hlt)
      have hdk := unhide HIN (mb.getD k 0) (by rw [List.getD_eq_getElem?_getD, List.getElem?_eq_getElem hlt]; simp)
      have HSk := hide (unhide HS k hlt)
      rw [← unhide HN] at HSk
      clear hsrc
      generalize mb.getD k 0 = t at *
      obtain ⟨d, rfl⟩ : ∃ d : Nat, t = (d : Int) := ⟨t.toNat, by omega⟩
      have HC := hide (unhide HCl wr d (by omega) ((unhide HB1).trans ((unhide HBk).mono (unhide HB1).size)))
      have hk0 : (0 : Int) ≤ (k : Int) := by omega
      have hk1 : (k : Int) < (mb.length : Int) := by omega
      have q1 : IntKind.i64.wrap ((n : Int) + 1) = (n : Int) + 1 := wrapSm _ (by omega) (by omega)
      have q2 : IntKind.i64.wrap ((k : Int) + 1) = (k : Int) + 1 := wrapSm _ (by omega) (by omega)
      rw [unhide HHAS] at HC HSk
      generalize has (d : Int) = r at *
      go_wp2_with fail
      refine (unhide HC).mono ?_
      rintro e w2 ⟨rfl, hw2'⟩
      have hb2 : Below wr.heap.size wr w2 := by rw [hw2']; exact Below.refl _ _
      clear hw2'
      have HB2 := hide ((unhide HBk).trans (hb2.mono (unhide HBk).size))
      clear hb2
      cases r
      · have E := hide (show n = C (k + 1) by rw [unhide HSk]; simp)
        go_wp2_with fail
        refine ⟨⟨k + 1, n, by omega, by go_num, rfl, E, HB2⟩, ?_⟩
        simp [intOf] <;> omega
      · have E := hide (show n + 1 = C (k + 1) by rw [unhide HSk]; simp)
        go_wp2_with fail
        refine ⟨⟨k + 1, n + 1, by omega, by go_num, by go_num, E, HB2⟩, ?_⟩
        simp [intOf] <;> omega
    · obtain rfl : k = mb.length := by omega
      have E : Hid (R = decide (mb.length < 2 * n)) := hide (by rw [unhide HMo, unhide HN])
      have q1 : IntKind.i64.wrap (2 * (n : Int)) = 2 * (n : Int) := wrapSm _ (by omega) (by omega)
      go_wp2_with fail
      all_goals
        go_ret
        exact ⟨ret_bool (by rw [unhide E]; first | rfl | (rw [Bool.eq_iff_iff]; simp only [decide_eq_true_eq]; omega)), (unhide HB1).trans ((unhide HBk).mono (unhide HB1).size)⟩
set_option maxRecDepth 100000 in
set_option maxHeartbeats 1000000 in
theorem plea_any (b d : Nat) (la : Option Addr) (lc : Nat) (lg : List En) (w : World) (hb : b < w.heap.size) (h3 : w.cell? ⟨b, 3, none⟩ = some (.slice la lg.length lc)) (hE : Ens w (.slice la lg.length lc) lg) (hl : lg.length ≤ 60) :
    Calls Try.prog 76 #[.pointer (some ⟨b, 0, none⟩), .int .i64 (d : Int)] w fun e w' => e = .returned (.agg #[.int .i64 1, .int .i64 0, .int .i64 (d : Int), .int .i64 0, .int .i64 (lg.length : Int), .int .i64 (termP lg lg.length), .int .i64 0, .slice none 0 0, .bool false]) ∧ Below w.heap.size w w' := by
  have BB := (Below.refl w.heap.size w).alloc (Nat.le_refl _) (.cells #[.int .i64 0, .int .i64 0, .int .i64 0, .int .i64 0, .int .i64 0, .int .i64 0, .int .i64 0, .slice none 0 0, .bool false] 59)
  have B0 := hide BB
  have R0 := hide (Blk.new w #[.int .i64 0, .int .i64 0, .int .i64 0, .int .i64 0, .int .i64 0, .int .i64 0, .int .i64 0, .slice none 0 0, .bool false] 59 w.heap.size rfl)
  have HEn := hide (end_any b la lg.length lc _ ((BB.cell (p := ⟨b, 3, none⟩) hb).trans h3))
  have HTe := hide (termAt_any b la lc lg lg.length _ ((BB.cell (p := ⟨b, 3, none⟩) hb).trans h3) (hE.below BB) (Nat.le_refl _) (by omega))
  clear BB hE h3
  go_enter Try.func76, Try.ntmps76
  go_wp2_with fail
  generalize w.alloc (.cells #[.int .i64 0, .int .i64 0, .int .i64 0, .int .i64 0, .int .i64 0, .int .i64 0, .int .i64 0, .slice none 0 0, .bool false] 59) = w0 at *
  refine (unhide HEn).mono ?_
  rintro e w' ⟨rfl, hw'⟩
  have hw2 := hw'.symm
  clear hw'
  subst hw2
  go_wp2_with fail
  refine (unhide HEn).mono ?_
  rintro e w' ⟨rfl, hw'⟩
  have hw2 := hw'.symm
  clear hw'
  subst hw2
  go_wp2_with fail
  refine (unhide HTe).mono ?_
  rintro e w' ⟨rfl, hw'⟩
  have hw2 := hw'.symm
  clear hw'
  subst hw2
  have RX := unhide R0
  have r0 := RX.cell 0 rfl
  have r1 := RX.cell 1 rfl
  have r2 := RX.cell 2 rfl
  have r3 := RX.cell 3 rfl
  have r4 := RX.cell 4 rfl
  have r5 := RX.cell 5 rfl
  have r6 := RX.cell 6 rfl
  have r7 := RX.cell 7 rfl
  have r8 := RX.cell 8 rfl
  have f0 := RX.fro 0
  have f1 := RX.fro 1
  have f2 := RX.fro 2
  have f3 := RX.fro 3
  have f4 := RX.fro 4
  have f5 := RX.fro 5
  have f6 := RX.fro 6
  have f7 := RX.fro 7
  have f8 := RX.fro 8
  have HR9 := hide ((((((((((RX.set 0 (.int .i64 1) (by simp)).set 1 (.int .i64 0) (by simp)).set 2 (.int .i64 (d : Int)) (by simp)).set 3 (.int .i64 0) (by simp)).set 4 (.int .i64 (lg.length : Int)) (by simp)).set 5 (.int .i64 (termP lg lg.length)) (by simp)).set 6 (.int .i64 0) (by simp)).set 7 (.slice none 0 0) (by simp)).set 8 (.bool false) (by simp)))
  have T9 := ((((((((((Touch.refl (fun q => q = w.heap.size) w0).setCell ⟨w.heap.size, 0, none⟩ (.int .i64 1) (fun _ => rfl)).setCell ⟨w.heap.size, 1, none⟩ (.int .i64 0) (fun _ => rfl)).setCell ⟨w.heap.size, 2, none⟩ (.int .i64 (d : Int)) (fun _ => rfl)).setCell ⟨w.heap.size, 3, none⟩ (.int .i64 0) (fun _ => rfl)).setCell ⟨w.heap.size, 4, none⟩ (.int .i64 (lg.length : Int)) (fun _ => rfl)).setCell ⟨w.heap.size, 5, none⟩ (.int .i64 (termP lg lg.length)) (fun _ => rfl)).setCell ⟨w.heap.size, 6, none⟩ (.int .i64 0) (fun _ => rfl)).setCell ⟨w.heap.size, 7, none⟩ (.slice none 0 0) (fun _ => rfl)).setCell ⟨w.heap.size, 8, none⟩ (.bool false) (fun _ => rfl))
  have K9 := hide ((unhide B0).trans (T9.below (unhide B0).size (fun k hk e => by omega)))
  clear RX T9
  go_wp2_with fail
  have R9 := unhide HR9
  have z0 := R9.cell 0 rfl
  have z1 := R9.cell 1 rfl
  have z2 := R9.cell 2 rfl
  have z3 := R9.cell 3 rfl
  have z4 := R9.cell 4 rfl
  have z5 := R9.cell 5 rfl
  have z6 := R9.cell 6 rfl
  have z7 := R9.cell 7 rfl
  have z8 := R9.cell 8 rfl
  refine bodyPost_ret (v := .agg #[.int .i64 1, .int .i64 0, .int .i64 (d : Int), .int .i64 0, .int .i64 (lg.length : Int), .int .i64 (termP lg lg.length), .int .i64 0, .slice none 0 0, .bool false]) (by simp [results, Try.results76, go_sem, z0, z1, z2, z3, z4, z5, z6, z7, z8]) rfl ?_
  exact ⟨rfl, unhide K9⟩
end Go.Proofs.Ytljolldacpkeeaa
