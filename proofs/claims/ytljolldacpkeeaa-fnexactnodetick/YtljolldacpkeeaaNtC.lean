/- (*actor).become of a candidate and of a leader, (leader).beat, walked. (Written by py/ntc.py.) -/
import Derived.Test.YtljolldacpkeeaaNpI
namespace Go.Proofs.Ytljolldacpkeeaa
open Go.ChangeShapes Go.WideShapes Go.ChangeAt Go.RowKit Go.Deep
set_option linter.unusedVariables false
set_option linter.unusedSimpArgs false

set_option maxRecDepth 100000 in
theorem canNumber_any (b : Nat) (w : World) :
    Calls Try.prog 106 #[.agg #[.pointer (some ⟨b, 0, none⟩)]] w fun e w' => e = .returned (.int .i64 1) ∧ w' = w.alloc (.cells #[.pointer (some ⟨b, 0, none⟩)] 84) := by
  go_enter Try.func106, Try.ntmps106
  go_wp2_with fail
  go_ret
  exact ⟨rfl, rfl⟩
set_option maxRecDepth 100000 in
set_option maxHeartbeats 1000000 in
theorem becomeCan_any (b : Nat) (vs : List Value) (hv : 5 < vs.length) (w : World) (h : Blk w b vs) :
    Calls Try.prog 72 #[.pointer (some ⟨b, 0, none⟩), .iface 84 (.agg #[.pointer (some ⟨b, 0, none⟩)])] w fun e w' => (∃ v, e = .returned v) ∧ Blk w' b (vs.set 5 (.int .i64 1)) ∧ Touch (fun k => k = b) w w' := by
  have h2 := h.alloc (.cells #[.pointer (some ⟨b, 0, none⟩)] 84)
  obtain ⟨x, hx⟩ : ∃ x, vs[5]? = some x := ⟨_, List.getElem?_eq_getElem hv⟩
  have c5 := h2.cell 5 hx
  have f5 := h2.fro 5
  have R := hide (And.intro (h2.set 5 (.int .i64 1) hv) (((Touch.refl (fun k => k = b) w).alloc (.cells #[.pointer (some ⟨b, 0, none⟩)] 84)).setCell ⟨b, 5, none⟩ (.int .i64 1) (fun _ => rfl)))
  clear h h2
  go_enter Try.func72, Try.ntmps72
  go_wp2_with fail
  refine (canNumber_any b w).mono ?_
  rintro e w' ⟨rfl, rfl⟩
  go_wp2_with fail
  go_end0
  exact ⟨⟨_, rfl⟩, (unhide R).1, (unhide R).2⟩
set_option maxRecDepth 100000 in
theorem leaNumber_any (b : Nat) (w : World) :
    Calls Try.prog 104 #[.agg #[.pointer (some ⟨b, 0, none⟩)]] w fun e w' => e = .returned (.int .i64 2) ∧ w' = w.alloc (.cells #[.pointer (some ⟨b, 0, none⟩)] 82) := by
  go_enter Try.func104, Try.ntmps104
  go_wp2_with fail
  go_ret
  exact ⟨rfl, rfl⟩
set_option maxRecDepth 100000 in
set_option maxHeartbeats 1000000 in
theorem becomeLea_any (b : Nat) (vs : List Value) (hv : 5 < vs.length) (w : World) (h : Blk w b vs) :
    Calls Try.prog 72 #[.pointer (some ⟨b, 0, none⟩), .iface 82 (.agg #[.pointer (some ⟨b, 0, none⟩)])] w fun e w' => (∃ v, e = .returned v) ∧ Blk w' b (vs.set 5 (.int .i64 2)) ∧ Touch (fun k => k = b) w w' := by
  have h2 := h.alloc (.cells #[.pointer (some ⟨b, 0, none⟩)] 82)
  obtain ⟨x, hx⟩ : ∃ x, vs[5]? = some x := ⟨_, List.getElem?_eq_getElem hv⟩
  have c5 := h2.cell 5 hx
  have f5 := h2.fro 5
  have R := hide (And.intro (h2.set 5 (.int .i64 2) hv) (((Touch.refl (fun k => k = b) w).alloc (.cells #[.pointer (some ⟨b, 0, none⟩)] 82)).setCell ⟨b, 5, none⟩ (.int .i64 2) (fun _ => rfl)))
  clear h h2
  go_enter Try.func72, Try.ntmps72
  go_wp2_with fail
  refine (leaNumber_any b w).mono ?_
  rintro e w' ⟨rfl, rfl⟩
  go_wp2_with fail
  go_end0
  exact ⟨⟨_, rfl⟩, (unhide R).1, (unhide R).2⟩
set_option maxRecDepth 100000 in
set_option maxHeartbeats 1000000 in
theorem beatNo_any (b : Nat) (el : Int) (w : World) (hb : b < w.heap.size) (h10 : w.cell? ⟨b, 10, none⟩ = some (.int .i64 el)) (he : el < 2) :
    Calls Try.prog 54 #[.agg #[.pointer (some ⟨b, 0, none⟩)]] w fun e w' => (∃ v, e = .returned v) ∧ Below w.heap.size w w' := by
  have BB := (Below.refl w.heap.size w).alloc (Nat.le_refl _) (.cells #[.pointer (some ⟨b, 0, none⟩)] 82)
  have B0 := hide BB
  have l0 := (Blk.new w #[.pointer (some ⟨b, 0, none⟩)] 82 w.heap.size rfl).cell 0 rfl
  have x10 := (BB.cell (p := ⟨b, 10, none⟩) hb).trans h10
  clear BB h10
  go_enter Try.func54, Try.ntmps54
  go_wp2_with fail
  first
    | go_end0
    | refine bodyPost_ret (v := .tuple #[]) (by simp [results, Try.results54, go_sem]) rfl ?_
  exact ⟨⟨_, rfl⟩, unhide B0⟩
set_option maxRecDepth 100000 in
set_option maxHeartbeats 1000000 in
theorem beat_any (B b : Nat) (id tm vo ro cm el wt : Int) (up : Bool) (lg : List En) (st vs nx mt : List Int) (la : Option Addr) (lc : Nat) (sa : Option Addr) (sc : Nat) (va : Option Addr) (vc : Nat) (na : Option Addr) (nc : Nat) (ma : Option Addr) (mc : Nat) (w : World) (hX : Blk w b [.int .i64 id, .int .i64 tm, .int .i64 vo, .slice la lg.length lc, .slice sa st.length sc, .int .i64 ro, .slice va vs.length vc, .slice na nx.length nc, .slice ma mt.length mc, .int .i64 cm, .int .i64 el, .int .i64 wt, .bool up, .slice none 0 0]) (he : 2 ≤ el) (hE : Ens w (.slice la lg.length lc) lg) (hEb : (Value.slice la lg.length lc).ownBlock ≠ some b) (hS : OwnI B w (.slice sa st.length sc) st) (hB : B ≤ w.heap.size) (hSb : (Value.slice sa st.length sc).ownBlock ≠ some b) (hN : Ints w (.slice na nx.length nc) nx) (hNb : (Value.slice na nx.length nc).ownBlock ≠ some b) (hz : ∀ i, (lg.getD i default).d.size ≤ maxLen) (hl : lg.length ≤ 60) (hg : CfgOK lg) (hx : nx.length = 7) (hmb : (mbAt lg st lg.length).length ≤ 7) (hd : ∀ d ∈ mbAt lg st lg.length, 0 ≤ d ∧ d < 7 ∧ (d ≠ id → 1 ≤ nx.getD d.toNat 0 ∧ nx.getD d.toNat 0 ≤ (lg.length : Int) + 1)) :
    Calls Try.prog 54 #[.agg #[.pointer (some ⟨b, 0, none⟩)]] w fun e w' => (∃ v, e = .returned v) ∧ ∃ v l, Blk w' b [.int .i64 id, .int .i64 tm, .int .i64 vo, .slice la lg.length lc, .slice sa st.length sc, .int .i64 ro, .slice va vs.length vc, .slice na nx.length nc, .slice ma mt.length mc, .int .i64 cm, .int .i64 0, .int .i64 wt, .bool up, v] ∧ Ns mgS w.heap.size w' v l.length l ∧ l.map bareM = tellL id tm cm lg nx (mbAt lg st lg.length) ∧ Touch (fun k => k = b) w w' := by
  have hbw := hX.1
  have BB := (Below.refl w.heap.size w).alloc (Nat.le_refl _) (.cells #[.pointer (some ⟨b, 0, none⟩)] 82)
  have L0 := Blk.new w #[.pointer (some ⟨b, 0, none⟩)] 82 w.heap.size rfl
  have l0 := L0.cell 0 rfl
  have X1 := hX.below BB
  have q1 : ¬ el < 2 := by omega
  have T1 := (Touch.refl (fun k => k = b) w).alloc (.cells #[.pointer (some ⟨b, 0, none⟩)] 82)
  have HSm := hide (fun wx (T2 : Touch (fun k => k = b) w wx) X2 => sendNews_any B b id tm vo ro cm 0 wt up lg st vs nx mt la lc sa sc va vc na nc ma mc wx X2 (hE.kept T2 (fun k hk e => hEb (by rw [hk, e]))) hEb (hS.kept T2 (fun k hk e => hSb (by rw [hk, e]))) (by have := T2.size; omega) hSb (hN.kept T2 (fun k hk e => hNb (by rw [hk, e]))) hNb hz hl hg hx hmb hd)
  clear hX hE hEb hS hB hSb hN hNb hz hl hg hx hmb hd BB l0
  generalize mbAt lg st lg.length = mb at *
  go_enter Try.func54, Try.ntmps54
  go_upto_region 1 with fail
  generalize w.alloc (.cells #[.pointer (some ⟨b, 0, none⟩)] 82) = w1 at *
  have l0 := L0.cell 0 rfl
  have x10 := X1.cell 10 rfl
  have f10 := X1.fro 10
  have T2 := T1.setCell ⟨b, 10, none⟩ (.int .i64 0) (fun _ => rfl)
  have X2 := X1.set 10 (.int .i64 0) (by simp)
  simp only [List.set_cons_succ, List.set_cons_zero] at X2
  have L2 := L0.other (C := b) 10 (.int .i64 0) (by omega)
  have l2 := L2.cell 0 rfl
  have hs2 := T2.size
  have HSn := hide (unhide HSm _ T2 X2)
  have HT2 := hide T2
  clear L0 X1 X2 L2 T2 T1 HSm
  go_wp2_with fail
  refine (unhide HSn).mono ?_
  rintro e w3 ⟨⟨v3, rfl⟩, v, l, hX3, hN3, hL3, hT3⟩
  have R := hide (And.intro hX3 (And.intro (hN3.down hs2) (And.intro hL3 ((unhide HT2).trans (T' := fun k => k = b) hT3 (fun _ _ e => e)))))
  clear hX3 hN3 hL3 hT3 HSn HT2
  go_wp2_with fail
  go_end0
  exact ⟨⟨_, rfl⟩, v, l, (unhide R).1, (unhide R).2.1, (unhide R).2.2.1, (unhide R).2.2.2⟩
end Go.Proofs.Ytljolldacpkeeaa
