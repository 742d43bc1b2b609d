/- The laws' eqWal, markWal, heldWal. -/
import Derived.Test.YtlicgahjdgipkakStrK
import Derived.Test.YtlicgahjdgipkakBlk
namespace Go.Proofs.Ytlicgahjdgipkak
open Go.ChangeShapes Go.WideShapes Go.ChangeAt Go.RowKit
set_option linter.unusedVariables false

theorem Strs.drewN {w : World} {v : Value} {l : List ByteArray} (h : Strs w v l) (n : Nat) : Strs (w.drewN n) v l := h.below (below_drewN (Below.refl _ w) n)
set_option maxRecDepth 100000 in
set_option maxHeartbeats 1000000 in
theorem eqWal_any (first torn : Int) (rv nv rv2 nv2 : Value) (rs ns : List ByteArray) (w : World) (h1 : Strs w rv rs) (h2 : Strs w nv ns) (h3 : Strs w rv2 rs) (h4 : Strs w nv2 ns) (hr : rs.length ≤ 1048576) (hn : ns.length ≤ 1048576) :
    Calls Try.prog 9 #[.agg #[.int .i64 first, rv, nv, .int .i64 torn], .agg #[.int .i64 first, rv2, nv2, .int .i64 torn]] w fun e w' => e = .returned (.bool true) ∧ Below w.heap.size w w' := by
  obtain ⟨a1, c1, rfl, k1⟩ := id h1
  obtain ⟨a2, c2, rfl, k2⟩ := id h2
  obtain ⟨a3, c3, rfl, k3⟩ := id h3
  obtain ⟨a4, c4, rfl, k4⟩ := id h4
  have B0 := (Below.refl w.heap.size w).alloc (Nat.le_refl _) (.cells #[.int .i64 first, .slice a1 rs.length c1, .slice a2 ns.length c2, .int .i64 torn] 28)
  have B1 := hide (B0.alloc B0.size (.cells #[.int .i64 first, .slice a3 rs.length c3, .slice a4 ns.length c4, .int .i64 torn] 28))
  have H1 := hide (h1.below (unhide B1))
  have H2 := hide (h2.below (unhide B1))
  have H3 := hide (h3.below (unhide B1))
  have H4 := hide (h4.below (unhide B1))
  have X1 := hide ((Blk.new w #[.int .i64 first, .slice a1 rs.length c1, .slice a2 ns.length c2, .int .i64 torn] 28 w.heap.size rfl).alloc (.cells #[.int .i64 first, .slice a3 rs.length c3, .slice a4 ns.length c4, .int .i64 torn] 28))
  have X2 := hide (Blk.new (w.alloc (.cells #[.int .i64 first, .slice a1 rs.length c1, .slice a2 ns.length c2, .int .i64 torn] 28)) #[.int .i64 first, .slice a3 rs.length c3, .slice a4 ns.length c4, .int .i64 torn] 28 (w.heap.size + 1) (by simp))
  clear h1 h2 h3 h4 k1 k2 k3 k4 B0
  go_enter Try.func9, Try.ntmps9
  go_wp2_with fail
  generalize (w.alloc (.cells #[.int .i64 first, .slice a1 rs.length c1, .slice a2 ns.length c2, .int .i64 torn] 28)).alloc (.cells #[.int .i64 first, .slice a3 rs.length c3, .slice a4 ns.length c4, .int .i64 torn] 28) = w1 at *
  refine (eqStringS_any _ _ rs w1 (unhide H1) (unhide H3) hr).mono ?_
  rintro e w2 ⟨rfl, n2, rfl⟩
  have B2 := hide (below_drewN (unhide B1) n2)
  have G2 := hide ((unhide H2).drewN n2)
  have G4 := hide ((unhide H4).drewN n2)
  have Y1 := hide ((unhide X1).drewN n2)
  have Y2 := hide ((unhide X2).drewN n2)
  clear B1 H1 H2 H3 H4 X1 X2
  generalize w1.drewN n2 = w2 at *
  have y2 := (unhide Y1).cell 2 rfl
  have z2 := (unhide Y2).cell 2 rfl
  go_wp2_with fail
  clear y2 z2
  refine (eqStringS_any _ _ ns w2 (unhide G2) (unhide G4) hn).mono ?_
  rintro e w3 ⟨rfl, n3, rfl⟩
  have B3 := hide (below_drewN (unhide B2) n3)
  have Z1 := hide ((unhide Y1).drewN n3)
  have Z2 := hide ((unhide Y2).drewN n3)
  clear B2 Y1 Y2 G2 G4
  generalize w2.drewN n3 = w3 at *
  have y3 := (unhide Z1).cell 3 rfl
  have z3 := (unhide Z2).cell 3 rfl
  go_wp2_with fail
  go_ret
  exact ⟨rfl, unhide B3⟩

set_option maxRecDepth 100000 in
set_option maxHeartbeats 1000000 in
theorem markWal_any (first torn : Int) (rv nv : Value) (rs ns : List ByteArray) (B : Nat) (w : World) (h1 : OwnS B w rv rs) (h2 : OwnS B w nv ns) (hap : ∀ k, rv.ownBlock = some k → nv.ownBlock ≠ some k) (hr : rs.length ≤ 1048575) (hn : ns.length ≤ 1048576) :
    Calls Try.prog 12 #[.agg #[.int .i64 first, rv, nv, .int .i64 torn], .int .i64 1] w fun e w' => e = .returned (.int .i64 (1 + (rs.length : Int) + (ns.length : Int))) ∧ OwnS B w' rv (marksK 1 rs.length) ∧ OwnS B w' nv (marksK (1 + rs.length) ns.length) ∧ Touch (fun k => rv.ownBlock = some k ∨ nv.ownBlock = some k) w w' := by
  obtain ⟨a1, n1, c1, e1⟩ : ∃ a n c, rv = .slice a n c := by
    rcases own_shape h1 with ⟨h, _⟩ | ⟨g, c, h, _⟩ <;> exact ⟨_, _, _, h⟩
  obtain ⟨a2, n2, c2, e2⟩ : ∃ a n c, nv = .slice a n c := by
    rcases own_shape h2 with ⟨h, _⟩ | ⟨g, c, h, _⟩ <;> exact ⟨_, _, _, h⟩
  subst e1 e2
  have B0 := (Below.refl w.heap.size w).alloc (Nat.le_refl _) (.cells #[.int .i64 first, .slice a1 n1 c1, .slice a2 n2 c2, .int .i64 torn] 28)
  have H1 := hide (h1.below B0)
  have H2 := hide (h2.below B0)
  have X1 := hide (Blk.new w #[.int .i64 first, .slice a1 n1 c1, .slice a2 n2 c2, .int .i64 torn] 28 w.heap.size rfl)
  have T1 := hide ((Touch.refl (fun k => (Value.slice a1 n1 c1).ownBlock = some k ∨ (Value.slice a2 n2 c2).ownBlock = some k) w).alloc (.cells #[.int .i64 first, .slice a1 n1 c1, .slice a2 n2 c2, .int .i64 torn] 28))
  have L1 := hide (fun k hk => (h1.lt k hk).2)
  have HAP := hide hap
  clear h1 h2 B0 hap
  go_enter Try.func12, Try.ntmps12
  go_wp2_with fail
  generalize w.alloc (.cells #[.int .i64 first, .slice a1 n1 c1, .slice a2 n2 c2, .int .i64 torn] 28) = w1 at *
  refine (markStringS_from 1 (by omega) (by omega) B _ rs w1 (unhide H1) (by omega)).mono ?_
  rintro e w2 ⟨rfl, hM1, hT2⟩
  have T2 := hide ((unhide T1).trans hT2 (fun k _ e => .inl e))
  have M1 := hide hM1
  have G2 := hide ((unhide H2).kept hT2 (fun k hk e => unhide HAP k e hk))
  have Y1 := hide ((unhide X1).kept hT2 (fun e => by have := unhide L1 _ e; omega))
  have y2 := (unhide Y1).cell 2 rfl
  clear T1 H1 H2 X1 hM1 hT2
  go_wp2_with fail
  have hcast : (1 : Int) + (rs.length : Int) = ((1 + rs.length : Nat) : Int) := by omega
  rw [hcast]
  clear hcast
  refine (markStringS_from (1 + rs.length) (by omega) (by omega) B _ ns w2 (unhide G2) hn).mono ?_
  rintro e w3 ⟨rfl, hM2, hT3⟩
  have T3 := hide ((unhide T2).trans hT3 (fun k _ e => .inr e))
  have M2 := hide hM2
  have M1b := hide ((unhide M1).kept hT3 (fun k hk e => unhide HAP k hk e))
  have hcc : ((1 + rs.length : Nat) : Int) + (ns.length : Int) = 1 + (rs.length : Int) + (ns.length : Int) := by omega
  rw [hcc]
  clear hcc T2 M1 G2 Y1 y2 hM2 hT3
  go_wp2_with fail
  go_ret
  exact ⟨rfl, unhide M1b, unhide M2, unhide T3⟩

set_option maxRecDepth 100000 in
set_option maxHeartbeats 1000000 in
theorem heldWal_any (first torn : Int) (rv nv : Value) (p q : Nat) (B : Nat) (w : World) (h1 : OwnS B w rv (marksK 1 p)) (h2 : OwnS B w nv (marksK (1 + p) q)) (hr : p ≤ 1048575) (hn : q ≤ 1048576) :
    Calls Try.prog 13 #[.agg #[.int .i64 first, rv, nv, .int .i64 torn], .int .i64 1] w fun e w' => e = .returned (.int .i64 (1 + (p : Int) + (q : Int))) ∧ Below w.heap.size w w' := by
  obtain ⟨a1, n1, c1, e1⟩ : ∃ a n c, rv = .slice a n c := by
    rcases own_shape h1 with ⟨h, _⟩ | ⟨g, c, h, _⟩ <;> exact ⟨_, _, _, h⟩
  obtain ⟨a2, n2, c2, e2⟩ : ∃ a n c, nv = .slice a n c := by
    rcases own_shape h2 with ⟨h, _⟩ | ⟨g, c, h, _⟩ <;> exact ⟨_, _, _, h⟩
  subst e1 e2
  have B0 := (Below.refl w.heap.size w).alloc (Nat.le_refl _) (.cells #[.int .i64 first, .slice a1 n1 c1, .slice a2 n2 c2, .int .i64 torn] 28)
  have B1 := hide B0
  have H1 := hide (h1.below B0)
  have H2 := hide (h2.below B0)
  have X1 := hide (Blk.new w #[.int .i64 first, .slice a1 n1 c1, .slice a2 n2 c2, .int .i64 torn] 28 w.heap.size rfl)
  clear h1 h2 B0
  go_enter Try.func13, Try.ntmps13
  go_wp2_with fail
  generalize w.alloc (.cells #[.int .i64 first, .slice a1 n1 c1, .slice a2 n2 c2, .int .i64 torn] 28) = w1 at *
  refine (heldStringS_from 1 (by omega) (by omega) B _ p w1 (unhide H1) (by omega)).mono ?_
  rintro e w2 ⟨rfl, hb2⟩
  have B2 := hide ((unhide B1).trans (hb2.mono (unhide B1).size))
  have G2 := hide ((unhide H2).below hb2)
  have Y1 := hide ((unhide X1).below hb2)
  have y2 := (unhide Y1).cell 2 rfl
  have hpos : ¬ (1 : Int) + (p : Int) < 0 := by omega
  clear B1 H1 H2 X1 hb2
  go_wp2_with fail
  have hcast : (1 : Int) + (p : Int) = ((1 + p : Nat) : Int) := by omega
  rw [hcast]
  clear hcast
  refine (heldStringS_from (1 + p) (by omega) (by omega) B _ q w2 (unhide G2) hn).mono ?_
  rintro e w3 ⟨rfl, hb3⟩
  have B3 := hide ((unhide B2).trans (hb3.mono (unhide B2).size))
  have hcc : ((1 + p : Nat) : Int) + (q : Int) = 1 + (p : Int) + (q : Int) := by omega
  rw [hcc]
  have hpos2 : ¬ (1 : Int) + (p : Int) + (q : Int) < 0 := by omega
  clear hcc B2 G2 Y1 y2 hb3 hpos
  go_wp2_with fail
  go_ret
  exact ⟨rfl, unhide B3⟩
end Go.Proofs.Ytlicgahjdgipkak
