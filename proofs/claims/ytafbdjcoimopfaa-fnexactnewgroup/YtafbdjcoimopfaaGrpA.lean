/- Groups that have nodes alone: laws.eqGroup, markGroup, heldGroup, walked. -/
import Derived.Test.YtafbdjcoimopfaaNodD
namespace Go.Proofs.Ytafbdjcoimopfaa
open Go.ChangeShapes Go.WideShapes Go.ChangeAt Go.RowKit Go.Deep
set_option linter.unusedVariables false
set_option linter.unusedSimpArgs false
theorem NsT_lt {X : Type} {S : Sh X} {B n : Nat} {w : World} {v : Value} {l : List X} (h : Ns S B w v n l) (k : Nat) (hk : NsT S v l k) : B ≤ k ∧ k < w.heap.size := by
  rcases hk with hk | ⟨p, hp, hk⟩
  · exact World.ownsRow.lt h.row k hk
  · exact (h.sub p hp).lt k hk
set_option maxRecDepth 100000 in
set_option maxHeartbeats 4000000 in
theorem eqGroup_any (B C : Nat) (u v : Value) (n : Nat) (l m : List NV) (a1 a2 a3 b1 b2 b3 : Option Addr) (c1 c2 c3 d1 d2 d3 : Nat) (w : World) (h : Ns nvS B w u n l) (h' : Ns nvS C w v n m) (hn : n ≤ 8) (hs : ∀ (i : Nat) (x y : NV), l[i]? = some x → m[i]? = some y → SameV x y) (hz : ∀ x ∈ l, NoS x.lg x.st x.vs x.nx x.mt) :
    Calls Try.prog 10 #[.agg #[u, .slice a1 0 c1, .slice a2 0 c2, .slice a3 0 c3], .agg #[v, .slice b1 0 d1, .slice b2 0 d2, .slice b3 0 d3]] w fun e w' => e = .returned (.bool true) ∧ Below w.heap.size w w' := by
  have BB := ((Below.refl w.heap.size w).alloc (Nat.le_refl _) (.cells #[u, .slice a1 0 c1, .slice a2 0 c2, .slice a3 0 c3] 27)).alloc (by simp) (.cells #[v, .slice b1 0 d1, .slice b2 0 d2, .slice b3 0 d3] 27)
  have B0 := hide BB
  have X1 := hide ((Blk.new w #[u, .slice a1 0 c1, .slice a2 0 c2, .slice a3 0 c3] 27 w.heap.size rfl).alloc (.cells #[v, .slice b1 0 d1, .slice b2 0 d2, .slice b3 0 d3] 27))
  have X2 := hide (Blk.new (w.alloc (.cells #[u, .slice a1 0 c1, .slice a2 0 c2, .slice a3 0 c3] 27)) #[v, .slice b1 0 d1, .slice b2 0 d2, .slice b3 0 d3] 27 (w.heap.size + 1) (by simp))
  have HE := hide (fun wx (hx : Below w.heap.size w wx) => eqNodeS_any B C u v n l m wx (h.below hx) (h'.below hx) hn hs hz)
  clear h h' hs hz BB
  go_enter Try.func10, Try.ntmps10
  have e0 := (unhide X1).cell 0 rfl
  have f0 := (unhide X2).cell 0 rfl
  go_wp2_with fail
  generalize (w.alloc (.cells #[u, .slice a1 0 c1, .slice a2 0 c2, .slice a3 0 c3] 27)).alloc (.cells #[v, .slice b1 0 d1, .slice b2 0 d2, .slice b3 0 d3] 27) = w0 at *
  refine (unhide HE w0 (unhide B0)).mono ?_
  rintro e w1 ⟨rfl, hb⟩
  have B1 := hide ((unhide B0).trans (hb.mono (unhide B0).size))
  have Y1 := (unhide X1).below hb
  have Y2 := (unhide X2).below hb
  have e1 := Y1.cell 1 rfl
  have e2 := Y1.cell 2 rfl
  have e3 := Y1.cell 3 rfl
  have f1 := Y2.cell 1 rfl
  have f2 := Y2.cell 2 rfl
  have f3 := Y2.cell 3 rfl
  clear hb B0 X1 X2 Y1 Y2 e0 f0 HE
  go_wp2_with fail
  refine (eqMessageS_nil _ _ _ _ w1).mono ?_
  rintro e w' ⟨rfl, hw⟩
  subst w'
  go_wp2_with fail
  refine (eqLeadS_nil _ _ _ _ w1).mono ?_
  rintro e w' ⟨rfl, hw⟩
  subst w'
  go_wp2_with fail
  refine (eqDoneS_nil _ _ _ _ w1).mono ?_
  rintro e w' ⟨rfl, hw⟩
  subst w'
  go_wp2_with fail
  go_ret
  exact ⟨rfl, unhide B1⟩
set_option maxRecDepth 100000 in
set_option maxHeartbeats 4000000 in
theorem markGroup_any (B : Nat) (u : Value) (n : Nat) (l : List NV) (a1 a2 a3 : Option Addr) (c1 c2 c3 : Nat) (w : World) (h : Ns nvS B w u n l) (hn : n ≤ 8) (hw : ∀ x ∈ l, wtV x ≤ 1000) :
    Calls Try.prog 11 #[.agg #[u, .slice a1 0 c1, .slice a2 0 c2, .slice a3 0 c3], .int .i64 1] w fun e w' => e = .returned (.int .i64 ((1 + wtVs l : Nat) : Int)) ∧ Ns nvS B w' u n (mkVs 1 l) ∧ Touch (NsT nvS u l) w w' := by
  have BB := (Below.refl w.heap.size w).alloc (Nat.le_refl _) (.cells #[u, .slice a1 0 c1, .slice a2 0 c2, .slice a3 0 c3] 27)
  have X1 := hide (Blk.new w #[u, .slice a1 0 c1, .slice a2 0 c2, .slice a3 0 c3] 27 w.heap.size rfl)
  have HM := hide (markNodeS_any 1 (by omega) (by omega) B u n l (w.alloc (.cells #[u, .slice a1 0 c1, .slice a2 0 c2, .slice a3 0 c3] 27)) (h.below BB) hn hw)
  have HT0 := hide ((Touch.refl (NsT nvS u l) w).alloc (.cells #[u, .slice a1 0 c1, .slice a2 0 c2, .slice a3 0 c3] 27))
  have HLT := hide (fun k hk => (NsT_lt h k hk).2)
  clear h BB hw
  go_enter Try.func11, Try.ntmps11
  have e0 := (unhide X1).cell 0 rfl
  go_wp2_with fail
  generalize w.alloc (.cells #[u, .slice a1 0 c1, .slice a2 0 c2, .slice a3 0 c3] 27) = w0 at *
  refine (unhide HM).mono ?_
  rintro e w1 ⟨rfl, hN, hT⟩
  have Y1 := (unhide X1).kept hT (fun q => absurd (unhide HLT _ q) (Nat.lt_irrefl _))
  have e1 := Y1.cell 1 rfl
  have e2 := Y1.cell 2 rfl
  have e3 := Y1.cell 3 rfl
  have N1 := hide hN
  have T1 := hide ((unhide HT0).trans hT (fun _ _ e => e))
  clear hN hT Y1 X1 HM HT0 e0
  generalize hk1e : 1 + wtVs l = k1 at *
  have HKE := hide hk1e
  clear hk1e
  go_wp2_with fail
  refine (markMessageS_nil _ _ k1 w1).mono ?_
  rintro e w' ⟨rfl, hw⟩
  subst w'
  go_wp2_with fail
  refine (markLeadS_nil _ _ k1 w1).mono ?_
  rintro e w' ⟨rfl, hw⟩
  subst w'
  go_wp2_with fail
  refine (markDoneS_nil _ _ k1 w1).mono ?_
  rintro e w' ⟨rfl, hw⟩
  subst w'
  go_wp2_with fail
  go_ret
  exact ⟨ret_int (by rw [unhide HKE]), unhide N1, unhide T1⟩
set_option maxRecDepth 100000 in
set_option maxHeartbeats 4000000 in
theorem heldGroup_any (B : Nat) (u : Value) (n : Nat) (l : List NV) (a1 a2 a3 : Option Addr) (c1 c2 c3 : Nat) (w : World) (h : Ns nvS B w u n (mkVs 1 l)) (hn : n ≤ 8) (hw : ∀ x ∈ l, wtV x ≤ 1000) :
    Calls Try.prog 12 #[.agg #[u, .slice a1 0 c1, .slice a2 0 c2, .slice a3 0 c3], .int .i64 1] w fun e w' => e = .returned (.int .i64 ((1 + wtVs l : Nat) : Int)) ∧ Below w.heap.size w w' := by
  have BB := (Below.refl w.heap.size w).alloc (Nat.le_refl _) (.cells #[u, .slice a1 0 c1, .slice a2 0 c2, .slice a3 0 c3] 27)
  have X1 := hide (Blk.new w #[u, .slice a1 0 c1, .slice a2 0 c2, .slice a3 0 c3] 27 w.heap.size rfl)
  have HM := hide (heldNodeS_any 1 (by omega) (by omega) B u n l (w.alloc (.cells #[u, .slice a1 0 c1, .slice a2 0 c2, .slice a3 0 c3] 27)) (h.below BB) hn hw)
  have B0 := hide BB
  clear h BB hw
  go_enter Try.func12, Try.ntmps12
  have e0 := (unhide X1).cell 0 rfl
  go_wp2_with fail
  generalize w.alloc (.cells #[u, .slice a1 0 c1, .slice a2 0 c2, .slice a3 0 c3] 27) = w0 at *
  refine (unhide HM).mono ?_
  rintro e w1 ⟨rfl, hb⟩
  have Y1 := (unhide X1).below hb
  have e1 := Y1.cell 1 rfl
  have e2 := Y1.cell 2 rfl
  have e3 := Y1.cell 3 rfl
  have B1 := hide ((unhide B0).trans (hb.mono (unhide B0).size))
  clear hb Y1 X1 HM B0 e0
  generalize hk1e : 1 + wtVs l = k1 at *
  have HKE := hide hk1e
  clear hk1e
  have hk1 : ¬ ((k1 : Nat) : Int) < 0 := by omega
  go_wp2_with fail
  refine (heldMessageS_nil _ _ k1 w1).mono ?_
  rintro e w' ⟨rfl, hw⟩
  subst w'
  go_wp2_with fail
  refine (heldLeadS_nil _ _ k1 w1).mono ?_
  rintro e w' ⟨rfl, hw⟩
  subst w'
  go_wp2_with fail
  refine (heldDoneS_nil _ _ k1 w1).mono ?_
  rintro e w' ⟨rfl, hw⟩
  subst w'
  go_wp2_with fail
  go_ret
  exact ⟨ret_int (by rw [unhide HKE]), unhide B1⟩
end Go.Proofs.Ytafbdjcoimopfaa
