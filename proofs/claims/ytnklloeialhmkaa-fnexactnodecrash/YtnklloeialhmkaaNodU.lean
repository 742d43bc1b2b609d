/- (*actor).end, termAt, noFurther, both UpToDate, walked. (Written by py/nodu.py.) -/
import Derived.Test.YtnklloeialhmkaaNodC
import Derived.Test.YtnklloeialhmkaaNodP
import Derived.Test.YtnklloeialhmkaaNodQ
namespace Go.Proofs.Ytnklloeialhmkaa
open Go.ChangeShapes Go.WideShapes Go.ChangeAt Go.RowKit Go.Deep
set_option linter.unusedVariables false

/-- The term of the entry at a place, 0 ahead of the first. -/
def termP (lg : List En) (p : Nat) : Int := if p = 0 then 0 else (lg.getD (p - 1) default).t
/-- A log that ends at ix with the term t is at least as far. -/
def utdB (lg : List En) (ix t : Int) : Bool := decide (termP lg lg.length < t) || (decide (t = termP lg lg.length) && decide ((lg.length : Int) ≤ ix))
/-- What UpToDate tells. -/
def utdOut (ok : Bool) (lg : List En) (ix t : Int) : Bool × Int := if ok then (utdB lg ix t, 0) else (false, 1)
theorem node_small {id tm vo ro cm el wt : Int} {up : Bool} {lg : List En} {st vs nx mt : List Int} (h : nodeB id tm vo ro cm el wt up lg st vs nx mt = true) : lg.length ≤ 60 ∧ st.length ≤ 7 ∧ vs.length ≤ 7 ∧ nx.length = 7 ∧ mt.length = 7 ∧ mFault st = 0 ∧ stateB tm vo lg = true := by
  unfold nodeB at h
  simp only [Bool.and_eq_true, decide_eq_true_eq] at h
  obtain ⟨h1, h2, h3, h4, h5, h6, _⟩ := h
  have a1 : lg.length ≤ 60 := by
    unfold stateB at h2
    simp only [Bool.and_eq_true, decide_eq_true_eq] at h2
    exact h2.1.2
  have a2 := mFault_small h3
  have a3 : vs.length ≤ 7 := by
    unfold risB at h5
    rcases of_decide_eq_true h5 with h | h
    · omega
    · exact mFault_small h
  unfold toldB at h6
  simp only [Bool.and_eq_true, decide_eq_true_eq] at h6
  exact ⟨a1, a2, a3, h6.1.1, h6.1.2, h3, h2⟩
set_option maxRecDepth 100000 in
theorem end_any (b : Nat) (a : Option Addr) (n c : Nat) (w : World) (h : w.cell? ⟨b, 3, none⟩ = some (.slice a n c)) :
    Calls Try.prog 88 #[.pointer (some ⟨b, 0, none⟩)] w fun e w' => e = .returned (.int .i64 (n : Int)) ∧ w' = w := by
  go_enter Try.func88, Try.ntmps88
  go_wp2_with fail
  go_ret
  exact ⟨rfl, rfl⟩
theorem Ens.term {w : World} {a : Option Addr} {c : Nat} {lg : List En} (h : Ens w (.slice a lg.length c) lg) (q : Nat) (hq : q < lg.length) : ∃ b off, a = some ⟨b, off, none⟩ ∧ b < w.heap.size ∧ w.cell? ⟨b, off + q * 3, none⟩ = some (.int .i64 (lg.getD q default).t) ∧ w.cell? ⟨b, off + q * 3 + 1, none⟩ = some (.int .i64 (lg.getD q default).k) ∧ w.cell? ⟨b, off + q * 3 + 2, none⟩ = some (.string (lg.getD q default).d) := by
  obtain ⟨a2, c2, e, _, _, hc⟩ := h
  simp only [Value.slice.injEq] at e
  obtain ⟨rfl, _, rfl⟩ := e
  rcases hc with h0 | ⟨b, off, rfl, hl, hc⟩
  · omega
  · exact ⟨b, off, rfl, hl, hc q hq⟩
set_option maxRecDepth 100000 in
set_option maxHeartbeats 1000000 in
theorem termAt_any (b : Nat) (a : Option Addr) (c : Nat) (lg : List En) (p : Nat) (w : World) (h : w.cell? ⟨b, 3, none⟩ = some (.slice a lg.length c)) (hE : Ens w (.slice a lg.length c) lg) (hp : p ≤ lg.length) (hl : lg.length ≤ 1048576) :
    Calls Try.prog 87 #[.pointer (some ⟨b, 0, none⟩), .int .i64 (p : Int)] w fun e w' => e = .returned (.int .i64 (termP lg p)) ∧ w' = w := by
  by_cases h0 : p = 0
  · subst h0
    clear hE
    go_enter Try.func87, Try.ntmps87
    go_wp2_with fail
    go_ret
    exact ⟨rfl, rfl⟩
  · obtain ⟨q, rfl⟩ : ∃ q, p = q + 1 := ⟨p - 1, by omega⟩
    obtain ⟨b2, off, rfl, _, s0, _, _⟩ := hE.term q (by omega)
    have E : Hid (termP lg (q + 1) = (lg.getD q default).t) := hide (by unfold termP; rw [if_neg (by omega), Nat.add_sub_cancel])
    have m0 : (((q + 1 : Nat) : Int) == 0) = false := by rw [beq_eq_false_iff_ne]; omega
    have m1 : IntKind.i64.wrap (((q + 1 : Nat) : Int) - 1) = (q : Int) := by simp only [IntKind.wrap, IntKind.bits, IntKind.signed]; simp; omega
    have m3 : (0 : Int) ≤ (q : Int) := by omega
    have m4 : (q : Int) < (lg.length : Int) := by omega
    clear hE
    generalize (lg.getD q default).t = x at *
    go_enter Try.func87, Try.ntmps87
    go_wp2_with fail
    go_ret
    exact ⟨ret_int (unhide E).symm, rfl⟩
set_option maxRecDepth 100000 in
set_option maxHeartbeats 1000000 in
theorem noFurther_any (b : Nat) (a : Option Addr) (c : Nat) (lg : List En) (ix t : Int) (w : World) (h : w.cell? ⟨b, 3, none⟩ = some (.slice a lg.length c)) (hE : Ens w (.slice a lg.length c) lg) (hl : lg.length ≤ 1048576) :
    Calls Try.prog 64 #[.pointer (some ⟨b, 0, none⟩), .int .i64 ix, .int .i64 t] w fun e w' => e = .returned (.bool (utdB lg ix t)) ∧ w' = w := by
  have HEn := hide (end_any b a lg.length c w h)
  have HTe := hide (termAt_any b a c lg lg.length w h hE (Nat.le_refl _) hl)
  have HU : Hid (utdB lg ix t = (decide (termP lg lg.length < t) || (decide (t = termP lg lg.length) && decide ((lg.length : Int) ≤ ix)))) := hide rfl
  clear h hE
  generalize termP lg lg.length = x at *
  generalize utdB lg ix t = R at *
  go_enter Try.func64, Try.ntmps64
  go_wp2_with fail
  refine (unhide HEn).mono ?_
  rintro e w' ⟨rfl, hw'⟩
  have hw2 := hw'.symm
  clear hw'
  subst hw2
  go_wp2_with fail
  refine (unhide HTe).mono ?_
  rintro e w' ⟨rfl, hw'⟩
  have hw2 := hw'.symm
  clear hw'
  subst hw2
  by_cases h1 : x < t
  · have E : Hid (R = true) := hide (by rw [unhide HU]; simp [h1])
    go_wp2_with fail
    all_goals
      go_ret
      exact ⟨ret_bool (unhide E).symm, rfl⟩
  by_cases h2 : t = x
  · subst h2
    have hb : (t == t) = true := by simp
    have E : Hid (R = decide ((lg.length : Int) ≤ ix)) := hide (by rw [unhide HU]; simp)
    go_wp2_with fail
    refine (unhide HEn).mono ?_
    rintro e w' ⟨rfl, hw'⟩
    have hw2 := hw'.symm
    clear hw'
    subst hw2
    go_wp2_with fail
    all_goals
      go_ret
      exact ⟨ret_bool (unhide E).symm, rfl⟩
  · have hb : (t == x) = false := by rw [beq_eq_false_iff_ne]; exact h2
    have E : Hid (R = false) := hide (by rw [unhide HU]; simp [h1, h2])
    go_wp2_with fail
    all_goals
      go_ret
      exact ⟨ret_bool (by rw [unhide E]; simp; omega), rfl⟩
theorem ret_bi {x y : Bool} {m n : Int} (h1 : x = y) (h2 : m = n) : Ending.returned (.tuple #[.bool x, .int .i64 m]) = .returned (.tuple #[.bool y, .int .i64 n]) := by rw [h1, h2]
set_option maxRecDepth 100000 in
set_option maxHeartbeats 2000000 in
theorem implUpToDate_any (id tm vo ro cm el wt : Int) (up : Bool) (lg : List En) (st vs nx mt : List Int) (la : Option Addr) (lc : Nat) (sa : Option Addr) (sc : Nat) (va : Option Addr) (vc : Nat) (na : Option Addr) (nc : Nat) (ma : Option Addr) (mc : Nat) (ix t : Int) (w : World) (h : NoR w (.slice la lg.length lc) (.slice sa st.length sc) (.slice va vs.length vc) (.slice na nx.length nc) (.slice ma mt.length mc) lg st vs nx mt) (hs : NoS lg st vs nx mt) :
    Calls Try.prog 35 #[.agg #[.int .i64 id, .int .i64 tm, .int .i64 vo, .slice la lg.length lc, .slice sa st.length sc, .int .i64 ro, .slice va vs.length vc, .slice na nx.length nc, .slice ma mt.length mc, .int .i64 cm, .int .i64 el, .int .i64 wt, .bool up], .int .i64 ix, .int .i64 t] w fun e w' => e = .returned (.tuple #[.bool (utdOut (nodeB id tm vo ro cm el wt up lg st vs nx mt) lg ix t).1, .int .i64 (utdOut (nodeB id tm vo ro cm el wt up lg st vs nx mt) lg ix t).2]) ∧ Below w.heap.size w w' := by
  have B0 := hide ((Below.refl w.heap.size w).alloc (Nat.le_refl _) (.cells #[.int .i64 id, .int .i64 tm, .int .i64 vo, .slice la lg.length lc, .slice sa st.length sc, .int .i64 ro, .slice va vs.length vc, .slice na nx.length nc, .slice ma mt.length mc, .int .i64 cm, .int .i64 el, .int .i64 wt, .bool up] 25))
  have X0 := hide (Blk.new w #[.int .i64 id, .int .i64 tm, .int .i64 vo, .slice la lg.length lc, .slice sa st.length sc, .int .i64 ro, .slice va vs.length vc, .slice na nx.length nc, .slice ma mt.length mc, .int .i64 cm, .int .i64 el, .int .i64 wt, .bool up] 25 w.heap.size rfl)
  have HN := hide (fun wx (hx : Below w.heap.size w wx) => implNodeOK_any id tm vo ro cm el wt up lg st vs nx mt la lc sa sc va vc na nc ma mc wx (h.below hx) hs)
  have HQ := hide (fun wx (hx : Below w.heap.size w wx) (hh : nodeB id tm vo ro cm el wt up lg st vs nx mt = true) => newActor_any id tm vo ro cm el wt up lg st vs nx mt la lc sa sc va vc na nc ma mc wx (h.below hx) (by have := node_small hh; omega) (by have := node_small hh; omega) (by have := node_small hh; omega) (by have := node_small hh; omega) (by have := node_small hh; omega))
  have HL := hide hs.l0
  have HU : Hid (∀ ok, utdOut ok lg ix t = if ok then (utdB lg ix t, 0) else (false, 1)) := hide (fun ok => rfl)
  clear h hs
  generalize nodeB id tm vo ro cm el wt up lg st vs nx mt = ok at *
  go_enter Try.func35, Try.ntmps35
  go_wp2_with fail
  generalize w.alloc (.cells #[.int .i64 id, .int .i64 tm, .int .i64 vo, .slice la lg.length lc, .slice sa st.length sc, .int .i64 ro, .slice va vs.length vc, .slice na nx.length nc, .slice ma mt.length mc, .int .i64 cm, .int .i64 el, .int .i64 wt, .bool up] 25) = w0 at *
  refine (unhide HN w0 (unhide B0)).mono ?_
  rintro e w1 ⟨rfl, hb⟩
  have K1 := hide ((unhide B0).trans (hb.mono (unhide B0).size))
  have XX := (unhide X0).below hb
  have x0 := XX.cell 0 rfl
  have x1 := XX.cell 1 rfl
  have x2 := XX.cell 2 rfl
  have x3 := XX.cell 3 rfl
  have x4 := XX.cell 4 rfl
  have x5 := XX.cell 5 rfl
  have x6 := XX.cell 6 rfl
  have x7 := XX.cell 7 rfl
  have x8 := XX.cell 8 rfl
  have x9 := XX.cell 9 rfl
  have x10 := XX.cell 10 rfl
  have x11 := XX.cell 11 rfl
  have x12 := XX.cell 12 rfl
  clear hb XX X0 B0 HN
  cases ok
  · go_wp2_with fail
    go_ret2
    exact ⟨by rw [unhide HU]; rfl, unhide K1⟩
  go_wp2_with fail
  refine (unhide HQ w1 (unhide K1) (by first | trivial | rfl)).mono ?_
  rintro e w2 ⟨b, la', lc', sa', sc', va', vc', na', nc', ma', mc', rfl, hA, hb⟩
  have K2 := hide ((unhide K1).trans (hb.mono (unhide K1).size))
  have c3 := hA.bk.cell 3 rfl
  have HE := hide hA.no.lg.ens
  have HF := hide (fun wx (h1 : wx = w2) => h1 ▸ noFurther_any b la' lc' lg ix t w2 c3 (unhide HE) (unhide HL))
  clear hb hA K1 HQ HE c3 x0 x1 x2 x3 x4 x5 x6 x7 x8 x9 x10 x11 x12
  go_wp2_with fail
  refine (unhide HF w2 rfl).mono ?_
  rintro e w' ⟨rfl, hw'⟩
  have hw2 := hw'.symm
  clear hw'
  subst hw2
  go_wp2_with fail
  go_ret2
  exact ⟨by rw [unhide HU]; rfl, unhide K2⟩
set_option maxRecDepth 100000 in
set_option maxHeartbeats 2000000 in
theorem l10Term_any (id tm vo ro cm el wt : Int) (up : Bool) (lg : List En) (st vs nx mt : List Int) (la : Option Addr) (lc : Nat) (sa : Option Addr) (sc : Nat) (va : Option Addr) (vc : Nat) (na : Option Addr) (nc : Nat) (ma : Option Addr) (mc : Nat) (p : Nat) (w : World) (hE : Ens w (.slice la lg.length lc) lg) (hp : p ≤ lg.length) (hl : lg.length ≤ 1048576) :
    Calls Try.prog 86 #[.agg #[.int .i64 id, .int .i64 tm, .int .i64 vo, .slice la lg.length lc, .slice sa st.length sc, .int .i64 ro, .slice va vs.length vc, .slice na nx.length nc, .slice ma mt.length mc, .int .i64 cm, .int .i64 el, .int .i64 wt, .bool up], .int .i64 (p : Int)] w fun e w' => e = .returned (.int .i64 (termP lg p)) ∧ Below w.heap.size w w' := by
  have B0 := hide ((Below.refl w.heap.size w).alloc (Nat.le_refl _) (.cells #[.int .i64 id, .int .i64 tm, .int .i64 vo, .slice la lg.length lc, .slice sa st.length sc, .int .i64 ro, .slice va vs.length vc, .slice na nx.length nc, .slice ma mt.length mc, .int .i64 cm, .int .i64 el, .int .i64 wt, .bool up] 25))
  by_cases h0 : p = 0
  · subst h0
    clear hE
    go_enter Try.func86, Try.ntmps86
    go_wp2_with fail
    go_ret
    exact ⟨rfl, unhide B0⟩
  · obtain ⟨q, rfl⟩ : ∃ q, p = q + 1 := ⟨p - 1, by omega⟩
    obtain ⟨b2, off, rfl, hb2, s0, _, _⟩ := hE.term q (by omega)
    have E : Hid (termP lg (q + 1) = (lg.getD q default).t) := hide (by unfold termP; rw [if_neg (by omega), Nat.add_sub_cancel])
    have m0 : (((q + 1 : Nat) : Int) == 0) = false := by rw [beq_eq_false_iff_ne]; omega
    have m1 : IntKind.i64.wrap (((q + 1 : Nat) : Int) - 1) = (q : Int) := by simp only [IntKind.wrap, IntKind.bits, IntKind.signed]; simp; omega
    have m3 : (0 : Int) ≤ (q : Int) := by omega
    have m4 : (q : Int) < (lg.length : Int) := by omega
    clear hE
    generalize (lg.getD q default).t = x at *
    go_enter Try.func86, Try.ntmps86
    go_wp2_with fail
    go_ret
    exact ⟨ret_int (unhide E).symm, unhide B0⟩
set_option maxRecDepth 100000 in
set_option maxHeartbeats 2000000 in
theorem l10UpToDate_any (id tm vo ro cm el wt : Int) (up : Bool) (lg : List En) (st vs nx mt : List Int) (la : Option Addr) (lc : Nat) (sa : Option Addr) (sc : Nat) (va : Option Addr) (vc : Nat) (na : Option Addr) (nc : Nat) (ma : Option Addr) (mc : Nat) (ix t : Int) (w : World) (hE : Ens w (.slice la lg.length lc) lg) (hl : lg.length ≤ 1048576) :
    Calls Try.prog 63 #[.agg #[.int .i64 id, .int .i64 tm, .int .i64 vo, .slice la lg.length lc, .slice sa st.length sc, .int .i64 ro, .slice va vs.length vc, .slice na nx.length nc, .slice ma mt.length mc, .int .i64 cm, .int .i64 el, .int .i64 wt, .bool up], .int .i64 ix, .int .i64 t] w fun e w' => e = .returned (.bool (utdB lg ix t)) ∧ Below w.heap.size w w' := by
  have B0 := hide ((Below.refl w.heap.size w).alloc (Nat.le_refl _) (.cells #[.int .i64 id, .int .i64 tm, .int .i64 vo, .slice la lg.length lc, .slice sa st.length sc, .int .i64 ro, .slice va vs.length vc, .slice na nx.length nc, .slice ma mt.length mc, .int .i64 cm, .int .i64 el, .int .i64 wt, .bool up] 25))
  have X0 := hide (Blk.new w #[.int .i64 id, .int .i64 tm, .int .i64 vo, .slice la lg.length lc, .slice sa st.length sc, .int .i64 ro, .slice va vs.length vc, .slice na nx.length nc, .slice ma mt.length mc, .int .i64 cm, .int .i64 el, .int .i64 wt, .bool up] 25 w.heap.size rfl)
  have HTe := hide (fun wx (hx : Below w.heap.size w wx) => l10Term_any id tm vo ro cm el wt up lg st vs nx mt la lc sa sc va vc na nc ma mc lg.length wx (hE.below hx) (Nat.le_refl _) hl)
  have HU : Hid (utdB lg ix t = (decide (termP lg lg.length < t) || (decide (t = termP lg lg.length) && decide ((lg.length : Int) ≤ ix)))) := hide rfl
  clear hE
  generalize termP lg lg.length = x at *
  generalize utdB lg ix t = R at *
  go_enter Try.func63, Try.ntmps63
  go_wp2_with fail
  generalize w.alloc (.cells #[.int .i64 id, .int .i64 tm, .int .i64 vo, .slice la lg.length lc, .slice sa st.length sc, .int .i64 ro, .slice va vs.length vc, .slice na nx.length nc, .slice ma mt.length mc, .int .i64 cm, .int .i64 el, .int .i64 wt, .bool up] 25) = w0 at *
  refine (unhide HTe w0 (unhide B0)).mono ?_
  rintro e w1 ⟨rfl, hb⟩
  have K1 := hide ((unhide B0).trans (hb.mono (unhide B0).size))
  have x3 := ((unhide X0).below hb).cell 3 rfl
  clear hb B0 X0 HTe
  by_cases h1 : x < t
  · have E : Hid (R = true) := hide (by rw [unhide HU]; simp [h1])
    go_wp2_with fail
    all_goals
      go_ret
      exact ⟨ret_bool (unhide E).symm, unhide K1⟩
  by_cases h2 : t = x
  · subst h2
    have hb : (t == t) = true := by simp
    have E : Hid (R = decide ((lg.length : Int) ≤ ix)) := hide (by rw [unhide HU]; simp)
    go_wp2_with fail
    all_goals
      go_ret
      exact ⟨ret_bool (unhide E).symm, unhide K1⟩
  · have hb : (t == x) = false := by rw [beq_eq_false_iff_ne]; exact h2
    have E : Hid (R = false) := hide (by rw [unhide HU]; simp [h1, h2])
    go_wp2_with fail
    all_goals
      go_ret
      exact ⟨ret_bool (by rw [unhide E]; simp; omega), unhide K1⟩
set_option maxRecDepth 100000 in
set_option maxHeartbeats 2000000 in
theorem specUpToDate_any (id tm vo ro cm el wt : Int) (up : Bool) (lg : List En) (st vs nx mt : List Int) (la : Option Addr) (lc : Nat) (sa : Option Addr) (sc : Nat) (va : Option Addr) (vc : Nat) (na : Option Addr) (nc : Nat) (ma : Option Addr) (mc : Nat) (ix t : Int) (w : World) (h : NoR w (.slice la lg.length lc) (.slice sa st.length sc) (.slice va vs.length vc) (.slice na nx.length nc) (.slice ma mt.length mc) lg st vs nx mt) (hs : NoS lg st vs nx mt) :
    Calls Try.prog 34 #[.agg #[.int .i64 id, .int .i64 tm, .int .i64 vo, .slice la lg.length lc, .slice sa st.length sc, .int .i64 ro, .slice va vs.length vc, .slice na nx.length nc, .slice ma mt.length mc, .int .i64 cm, .int .i64 el, .int .i64 wt, .bool up], .int .i64 ix, .int .i64 t] w fun e w' => e = .returned (.tuple #[.bool (utdOut (nodeB id tm vo ro cm el wt up lg st vs nx mt) lg ix t).1, .int .i64 (utdOut (nodeB id tm vo ro cm el wt up lg st vs nx mt) lg ix t).2]) ∧ Below w.heap.size w w' := by
  have B0 := hide ((Below.refl w.heap.size w).alloc (Nat.le_refl _) (.cells #[.int .i64 id, .int .i64 tm, .int .i64 vo, .slice la lg.length lc, .slice sa st.length sc, .int .i64 ro, .slice va vs.length vc, .slice na nx.length nc, .slice ma mt.length mc, .int .i64 cm, .int .i64 el, .int .i64 wt, .bool up] 25))
  have X0 := hide (Blk.new w #[.int .i64 id, .int .i64 tm, .int .i64 vo, .slice la lg.length lc, .slice sa st.length sc, .int .i64 ro, .slice va vs.length vc, .slice na nx.length nc, .slice ma mt.length mc, .int .i64 cm, .int .i64 el, .int .i64 wt, .bool up] 25 w.heap.size rfl)
  have HN := hide (fun wx (hx : Below w.heap.size w wx) => specNodeOK_any id tm vo ro cm el wt up lg st vs nx mt la lc sa sc va vc na nc ma mc wx (h.below hx) hs)
  have HQ := hide (fun wx (hx : Below w.heap.size w wx) => l10UpToDate_any id tm vo ro cm el wt up lg st vs nx mt la lc sa sc va vc na nc ma mc ix t wx (h.below hx).lg hs.l0)
  have HU : Hid (∀ ok, utdOut ok lg ix t = if ok then (utdB lg ix t, 0) else (false, 1)) := hide (fun ok => rfl)
  clear h hs
  generalize nodeB id tm vo ro cm el wt up lg st vs nx mt = ok at *
  go_enter Try.func34, Try.ntmps34
  go_wp2_with fail
  generalize w.alloc (.cells #[.int .i64 id, .int .i64 tm, .int .i64 vo, .slice la lg.length lc, .slice sa st.length sc, .int .i64 ro, .slice va vs.length vc, .slice na nx.length nc, .slice ma mt.length mc, .int .i64 cm, .int .i64 el, .int .i64 wt, .bool up] 25) = w0 at *
  refine (unhide HN w0 (unhide B0)).mono ?_
  rintro e w1 ⟨rfl, hb⟩
  have K1 := hide ((unhide B0).trans (hb.mono (unhide B0).size))
  have XX := (unhide X0).below hb
  have x0 := XX.cell 0 rfl
  have x1 := XX.cell 1 rfl
  have x2 := XX.cell 2 rfl
  have x3 := XX.cell 3 rfl
  have x4 := XX.cell 4 rfl
  have x5 := XX.cell 5 rfl
  have x6 := XX.cell 6 rfl
  have x7 := XX.cell 7 rfl
  have x8 := XX.cell 8 rfl
  have x9 := XX.cell 9 rfl
  have x10 := XX.cell 10 rfl
  have x11 := XX.cell 11 rfl
  have x12 := XX.cell 12 rfl
  clear hb XX X0 B0 HN
  cases ok
  · go_wp2_with fail
    go_ret2
    exact ⟨by rw [unhide HU]; rfl, unhide K1⟩
  go_wp2_with fail
  refine (unhide HQ w1 (unhide K1)).mono ?_
  rintro e w2 ⟨rfl, hb⟩
  have K2 := hide ((unhide K1).trans (hb.mono (unhide K1).size))
  clear hb K1 HQ x0 x1 x2 x3 x4 x5 x6 x7 x8 x9 x10 x11 x12
  go_wp2_with fail
  go_ret2
  exact ⟨by rw [unhide HU]; rfl, unhide K2⟩
end Go.Proofs.Ytnklloeialhmkaa
