/- (*actor).end, termAt, noFurther, both UpToDate, walked. (Written by py/nodu.py.) -/
import Derived.Test.YtljolldacpkeeaaHaa
import Derived.Test.YtljolldacpkeeaaNodP
import Derived.Test.YtljolldacpkeeaaNodQ
namespace Go.Proofs.Ytljolldacpkeeaa
open Go.ChangeShapes Go.WideShapes Go.ChangeAt Go.RowKit Go.Deep
set_option linter.unusedVariables false

/-- The term of the entry at a place, 0 ahead of the first. -/
def termP (lg : List En) (p : Nat) : Int := if p = 0 then 0 else (lg.getD (p - 1) default).t
/-- A log that ends at ix with the term t is at least as far. -/
def utdB (lg : List En) (ix t : Int) : Bool := decide (termP lg lg.length < t) || (decide (t = termP lg lg.length) && decide ((lg.length : Int) ≤ ix))
/-- What UpToDate tells. -/
def utdOut (ok : Bool) (lg : List En) (ix t : Int) : Bool × Int := if ok then (utdB lg ix t, 0) else (false, 1)
theorem node_small {id tm vo ro cm el wt : Int} {up : Bool} {lg : List En} {st vs nx mt : List Int} (h : nodeB id tm vo ro cm el wt up lg st vs nx mt = true) : lg.length ≤ 60 ∧ st.length ≤ 7 ∧ vs.length ≤ 7 ∧ nx.length = 7 ∧ mt.length = 7 ∧ mFault st = 0 ∧ stateB tm vo lg = true := by
  unfold nodeB at h
  simp only [Bool.and_eq_true, decide_eq_true_eq] at h
  obtain ⟨h1, h2, h3, h4, h5, h6, _⟩ := h
  have a1 : lg.length ≤ 60 := by
    unfold stateB at h2
    simp only [Bool.and_eq_true, decide_eq_true_eq] at h2
    exact h2.1.2
  have a2 := mFault_small h3
  have a3 : vs.length ≤ 7 := by
    unfold risB at h5
    rcases of_decide_eq_true h5 with h | h
    · omega
    · exact mFault_small h
  unfold toldB at h6
  simp only [Bool.and_eq_true, decide_eq_true_eq] at h6
  exact ⟨a1, a2, a3, h6.1.1, h6.1.2, h3, h2⟩
set_option maxRecDepth 100000 in
theorem end_any (b : Nat) (a : Option Addr) (n c : Nat) (w : World) (h : w.cell? ⟨b, 3, none⟩ = some (.slice a n c)) :
    Calls Try.prog 77 #[.pointer (some ⟨b, 0, none⟩)] w fun e w' => e = .returned (.int .i64 (n : Int)) ∧ w' = w := by
  go_enter Try.func77, Try.ntmps77
  go_wp2_with fail
  go_ret
  exact ⟨rfl, rfl⟩
theorem Ens.term {w : World} {a : Option Addr} {c : Nat} {lg : List En} (h : Ens w (.slice a lg.length c) lg) (q : Nat) (hq : q < lg.length) : ∃ b off, a = some ⟨b, off, none⟩ ∧ b < w.heap.size ∧ w.cell? ⟨b, off + q * 3, none⟩ = some (.int .i64 (lg.getD q default).t) ∧ w.cell? ⟨b, off + q * 3 + 1, none⟩ = some (.int .i64 (lg.getD q default).k) ∧ w.cell? ⟨b, off + q * 3 + 2, none⟩ = some (.string (lg.getD q default).d) := by
  obtain ⟨a2, c2, e, _, _, hc⟩ := h
  simp only [Value.slice.injEq] at e
  obtain ⟨rfl, _, rfl⟩ := e
  rcases hc with h0 | ⟨b, off, rfl, hl, hc⟩
  · omega
  · exact ⟨b, off, rfl, hl, hc q hq⟩
set_option maxRecDepth 100000 in
set_option maxHeartbeats 1000000 in
theorem termAt_any (b : Nat) (a : Option Addr) (c : Nat) (lg : List En) (p : Nat) (w : World) (h : w.cell? ⟨b, 3, none⟩ = some (.slice a lg.length c)) (hE : Ens w (.slice a lg.length c) lg) (hp : p ≤ lg.length) (hl : lg.length ≤ 1048576) :
    Calls Try.prog 82 #[.pointer (some ⟨b, 0, none⟩), .int .i64 (p : Int)] w fun e w' => e = .returned (.int .i64 (termP lg p)) ∧ w' = w := by
  by_cases h0 : p = 0
  · subst h0
    clear hE
    go_enter Try.func82, Try.ntmps82
    go_wp2_with fail
    go_ret
    exact ⟨rfl, rfl⟩
  · obtain ⟨q, rfl⟩ : ∃ q, p = q + 1 := ⟨p - 1, by omega⟩
    obtain ⟨b2, off, rfl, _, s0, _, _⟩ := hE.term q (by omega)
    have E : Hid (termP lg (q + 1) = (lg.getD q default).t) := hide (by unfold termP; rw [if_neg (by omega), Nat.add_sub_cancel])
    have m0 : (((q + 1 : Nat) : Int) == 0) = false := by rw [beq_eq_false_iff_ne]; omega
    have m1 : IntKind.i64.wrap (((q + 1 : Nat) : Int) - 1) = (q : Int) := by simp only [IntKind.wrap, IntKind.bits, IntKind.signed]; simp; omega
    have m3 : (0 : Int) ≤ (q : Int) := by omega
    have m4 : (q : Int) < (lg.length : Int) := by omega
    clear hE
    generalize (lg.getD q default).t = x at *
    go_enter Try.func82, Try.ntmps82
    go_wp2_with fail
    go_ret
    exact ⟨ret_int (unhide E).symm, rfl⟩
theorem ret_bi {x y : Bool} {m n : Int} (h1 : x = y) (h2 : m = n) : Ending.returned (.tuple #[.bool x, .int .i64 m]) = .returned (.tuple #[.bool y, .int .i64 n]) := by rw [h1, h2]
set_option maxRecDepth 100000 in
set_option maxHeartbeats 2000000 in
theorem l10Term_any (id tm vo ro cm el wt : Int) (up : Bool) (lg : List En) (st vs nx mt : List Int) (la : Option Addr) (lc : Nat) (sa : Option Addr) (sc : Nat) (va : Option Addr) (vc : Nat) (na : Option Addr) (nc : Nat) (ma : Option Addr) (mc : Nat) (p : Nat) (w : World) (hE : Ens w (.slice la lg.length lc) lg) (hp : p ≤ lg.length) (hl : lg.length ≤ 1048576) :
    Calls Try.prog 66 #[.agg #[.int .i64 id, .int .i64 tm, .int .i64 vo, .slice la lg.length lc, .slice sa st.length sc, .int .i64 ro, .slice va vs.length vc, .slice na nx.length nc, .slice ma mt.length mc, .int .i64 cm, .int .i64 el, .int .i64 wt, .bool up], .int .i64 (p : Int)] w fun e w' => e = .returned (.int .i64 (termP lg p)) ∧ Below w.heap.size w w' := by
  have B0 := hide ((Below.refl w.heap.size w).alloc (Nat.le_refl _) (.cells #[.int .i64 id, .int .i64 tm, .int .i64 vo, .slice la lg.length lc, .slice sa st.length sc, .int .i64 ro, .slice va vs.length vc, .slice na nx.length nc, .slice ma mt.length mc, .int .i64 cm, .int .i64 el, .int .i64 wt, .bool up] 29))
  by_cases h0 : p = 0
  · subst h0
    clear hE
    go_enter Try.func66, Try.ntmps66
    go_wp2_with fail
    go_ret
    exact ⟨rfl, unhide B0⟩
  · obtain ⟨q, rfl⟩ : ∃ q, p = q + 1 := ⟨p - 1, by omega⟩
    obtain ⟨b2, off, rfl, hb2, s0, _, _⟩ := hE.term q (by omega)
    have E : Hid (termP lg (q + 1) = (lg.getD q default).t) := hide (by unfold termP; rw [if_neg (by omega), Nat.add_sub_cancel])
    have m0 : (((q + 1 : Nat) : Int) == 0) = false := by rw [beq_eq_false_iff_ne]; omega
    have m1 : IntKind.i64.wrap (((q + 1 : Nat) : Int) - 1) = (q : Int) := by simp only [IntKind.wrap, IntKind.bits, IntKind.signed]; simp; omega
    have m3 : (0 : Int) ≤ (q : Int) := by omega
    have m4 : (q : Int) < (lg.length : Int) := by omega
    clear hE
    generalize (lg.getD q default).t = x at *
    go_enter Try.func66, Try.ntmps66
    go_wp2_with fail
    go_ret
    exact ⟨ret_int (unhide E).symm, unhide B0⟩
end Go.Proofs.Ytljolldacpkeeaa
