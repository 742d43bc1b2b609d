/- slices.Backward of entries; (*actor).members, walked. -/
import Derived.RangeFuncNested
import Derived.RangeFuncBound
import Derived.RangeFuncCalls
import Derived.RangeFuncLeaves
import Derived.RangeFuncFrom
import Derived.RangeFuncBox
import Derived.Shelf.Abstract
import Derived.Shelf.RegionOpen
import Derived.WalkKit
import Derived.OwnWalkIn
import Derived.TacticsInMore
import Derived.LoopNIn
import Derived.LoopIn
import Derived.Test.YtljolldacpkeeaaNodU
namespace Go.Proofs.Ytljolldacpkeeaa
open Go.ChangeShapes Go.WideShapes Go.ChangeAt Go.RowKit Go.Shelf
set_option linter.unusedVariables false
set_option linter.unusedSimpArgs false
attribute [local go_sem] Oper.semAt_some

/-- A place's number and the entry there. -/
abbrev EA := { x : Nat × En // x.2.d.size ≤ maxLen }
def eaV (x : EA) : Array Value := #[.int .i64 (x.1.1 : Int), .agg #[.int .i64 x.1.2.t, .int .i64 x.1.2.k, .string x.1.2.d]]
/-- What comes in round j from the end on. -/
def bel (lg : List En) (hz : ∀ i, (lg.getD i default).d.size ≤ maxLen) (j : Nat) : EA := ⟨(lg.length - 1 - j, lg.getD (lg.length - 1 - j) default), hz _⟩
def bwd (lg : List En) (hz : ∀ i, (lg.getD i default).d.size ≤ maxLen) (k : Nat) : List EA := (List.range k).map (bel lg hz)
theorem bwd_succ (lg : List En) (hz : ∀ i, (lg.getD i default).d.size ≤ maxLen) (k : Nat) : bwd lg hz (k + 1) = bwd lg hz k ++ [bel lg hz k] := by
  unfold bwd; rw [List.range_succ, List.map_append]; rfl
theorem bwd_len (lg : List En) (hz : ∀ i, (lg.getD i default).d.size ≤ maxLen) (k : Nat) : (bwd lg hz k).length = k := by simp [bwd]
set_option maxRecDepth 100000 in
set_option maxHeartbeats 2000000 in
theorem back1_in (n l Bs n₀ : Nat) (a : Option Addr) (c : Nat) (lg : List En) (hz : ∀ i, (lg.getD i default).d.size ≤ maxLen) (hl : lg.length ≤ 1048576) (J Jx : List EA → World → Prop)
    (hY : ∀ pre x W, J pre W → pre.length < lg.length → YieldAt Fence.wide (n - 1) Try.prog l (eaV x) W fun e W' =>
      (e = .returned (.bool true) ∧ J (pre ++ [x]) W' ∧ Below n₀ W W') ∨ (e = .returned (.bool false) ∧ Jx (pre ++ [x]) W'))
    (W : World) (hBs : W.cell? ⟨Bs, 0, none⟩ = some (.slice a lg.length c)) (hBn : Bs < n₀)
    (hc : ∀ q, q < lg.length → ∃ b off, a = some ⟨b, off, none⟩ ∧ b < n₀ ∧ W.cell? ⟨b, off + q * 3, none⟩ = some (.int .i64 (lg.getD q default).t) ∧ W.cell? ⟨b, off + q * 3 + 1, none⟩ = some (.int .i64 (lg.getD q default).k) ∧ W.cell? ⟨b, off + q * 3 + 2, none⟩ = some (.string (lg.getD q default).d)) (h0 : J [] W) :
    CallsIn Fence.wide n Try.prog 87 #[.func (.yield l) #[] #[], .pointer (some ⟨Bs, 0, none⟩)] W fun e W' => (∃ v, e = .returned v) ∧
      ((∃ ys, ys = bwd lg hz lg.length ∧ J ys W') ∨ (∃ pre, (∃ k, k ≤ lg.length ∧ pre = bwd lg hz k) ∧ Jx pre W')) := by
  have w0 : IntKind.i64.wrap ((lg.length : Int) - 1) = (lg.length : Int) - 1 := by
    simp only [IntKind.wrap, IntKind.bits, IntKind.signed]
    simp
    omega
  refine callsIn_of_wp Try.func87 rfl trivial ?_ rfl
  simp only [Try.ntmps87, List.size_toArray, List.length_cons, List.length_nil, Nat.reduceAdd, Nat.reduceSub, Array.replicate_succ, Array.replicate_zero, List.push_toArray, List.append_toArray, List.nil_append, List.cons_append]
  gi_wp2
  gi_loopw [3] (fun i wr => ∃ (k : Nat) (z : Int), k ≤ lg.length ∧ z = (lg.length : Int) - 1 - (k : Int) ∧ i = .int .i64 z ∧ J (bwd lg hz k) wr ∧ Below n₀ W wr) (fun i _ => (intOf i + 1).toNat)
  case atStart => exact ⟨0, _, Nat.zero_le _, by simp, rfl, h0, Below.refl _ _⟩
  case round =>
    obtain ⟨k, z, hk, hzz, rfl, hJs, hnx⟩ := hrel
    have hcb := (hnx.cell (p := ⟨Bs, 0, none⟩) hBn).trans hBs
    by_cases hlt : k < lg.length
    · obtain ⟨q, hq⟩ : ∃ q, lg.length = k + q + 1 := ⟨lg.length - k - 1, by omega⟩
      obtain rfl : z = (q : Int) := by omega
      obtain ⟨b, off, rfl, hbn, s0, s1, s2⟩ := hc q (by omega)
      have e0 := (hnx.cell (p := ⟨b, off + q * 3, none⟩) hbn).trans s0
      have e1 := (hnx.cell (p := ⟨b, off + q * 3 + 1, none⟩) hbn).trans s1
      have e2 := (hnx.cell (p := ⟨b, off + q * 3 + 2, none⟩) hbn).trans s2
      have HBE : Hid ((bel lg hz k).1 = (q, lg.getD q default)) := hide (by unfold bel; simp only [show lg.length - 1 - k = q by omega])
      have hdz := hz q
      have HS := hide (bwd_succ lg hz k)
      generalize lg.getD q default = f at *
      obtain ⟨fn, tmps, assign, body, hy, hR⟩ := hY _ ⟨(q, f), hdz⟩ wr hJs (by rw [bwd_len]; exact hlt)
      have HJ2 : Hid (bwd lg hz k ++ [⟨(q, f), hdz⟩] = bwd lg hz (k + 1)) := hide (by rw [unhide HS]; congr 1; congr 1; exact (Subtype.ext (unhide HBE)).symm)
      clear HBE HS
      obtain ⟨ft, fk, fd⟩ := f
      dsimp only [eaV] at hy e0 e1 e2
      have m0 : (0 : Int) ≤ (q : Int) := by omega
      have m1 : (q : Int) < (lg.length : Int) := by omega
      have m2 : IntKind.i64.wrap ((q : Int) - 1) = (q : Int) - 1 := by
        simp only [IntKind.wrap, IntKind.bits, IntKind.signed]
        simp
        omega
      have HX := hide (And.intro hq hzz)
      clear hc s0 s1 s2 hq hzz
      gi_wp2
      refine ⟨fun h => (by cases h), ?_⟩
      refine hR.mono ?_
      rintro e W3 (⟨rfl, hJ3, hk3⟩ | ⟨rfl, hJx3⟩)
      · have R := hide (And.intro hJ3 (hnx.trans hk3))
        clear hJ3 hk3
        gi_wp2
        go_roundw
        case rel =>
          obtain ⟨hq, hzz⟩ := unhide HX
          exact ⟨k + 1, _, by omega, by omega, rfl, by rw [← unhide HJ2]; exact (unhide R).1, (unhide R).2⟩
        case measure => first | (simp [intOf]; done) | (simp [intOf]; omega)
      · gi_wp2
        refine bodyPost_ret (results_none rfl _ _ _) rfl ?_
        exact ⟨⟨_, rfl⟩, .inr ⟨_, ⟨k + 1, by omega, (unhide HJ2)⟩, hJx3⟩⟩
    · obtain rfl : k = lg.length := by omega
      obtain rfl : z = -1 := by omega
      gi_wp2
      go_end0
      exact ⟨⟨_, rfl⟩, .inl ⟨_, rfl, hJs⟩⟩
theorem back_stops (n Bs : Nat) (a : Option Addr) (c : Nat) (lg : List En) (hz : ∀ i, (lg.getD i default).d.size ≤ maxLen) (hl : lg.length ≤ 1048576) (w : World) (hBs : Bs < w.heap.size)
    (hc : w.cell? ⟨Bs, 0, none⟩ = some (.slice a lg.length c)) (hE : Ens w (.slice a lg.length c) lg) :
    SeqStopsK Fence.wide n Try.prog 87 #[.pointer (some ⟨Bs, 0, none⟩)] eaV (Below w.heap.size) (fun ys => ys = bwd lg hz lg.length) (fun pre => ∃ k, k ≤ lg.length ∧ pre = bwd lg hz k) lg.length w := fun l J Jx W hW _ _ hY h0 =>
  back1_in n l Bs w.heap.size a c lg hz hl J Jx hY W ((hW.cell (p := ⟨Bs, 0, none⟩) hBs).trans hc) hBs (fun q hq => by
    obtain ⟨b, off, ha, hb, s0, s1, s2⟩ := hE.term q hq
    exact ⟨b, off, ha, hb, (hW.cell (p := ⟨b, off + q * 3, none⟩) hb).trans s0, (hW.cell (p := ⟨b, off + q * 3 + 1, none⟩) hb).trans s1, (hW.cell (p := ⟨b, off + q * 3 + 2, none⟩) hb).trans s2⟩) h0
set_option maxHeartbeats 1000000 in
theorem back_in (n : Nat) (a : Option Addr) (len c : Nat) (w : World) :
    CallsIn Fence.wide n Try.prog 84 #[.slice a len c] w fun e w' => e = .returned (.func (.func 87) #[] #[.pointer (some ⟨w.heap.size, 0, none⟩)]) ∧ w' = w.alloc (.cells #[.slice a len c] 27) := by
  refine callsIn_of_wp Try.func84 rfl trivial ?_ rfl
  simp only [Try.ntmps84, List.size_toArray, List.length_cons, List.length_nil, Nat.reduceAdd, Nat.reduceSub, Array.replicate_succ, Array.replicate_zero, List.push_toArray, List.append_toArray, List.nil_append, List.cons_append]
  gi_wp2
  go_ret
  exact ⟨rfl, rfl⟩
/-- The members by the first k entries: those of the last config among them, without one st. -/
def mbAt (lg : List En) (st : List Int) : Nat → List Int
  | 0 => st
  | k + 1 => if (lg.getD k default).k = 2 then bytesI (lg.getD k default).d else mbAt lg st k
/-- What a round that leaves has read. -/
def resL (pre : List EA) : List Int := match pre.getLast? with
  | some x => (memRead x.1.2.d).1
  | none => []
theorem resL_app (pre : List EA) (x : EA) : resL (pre ++ [x]) = (memRead x.1.2.d).1 := by unfold resL; simp
/-- Configs of a log are right. -/
def CfgOK (lg : List En) : Prop := ∀ i, i < lg.length → (lg.getD i default).k = 2 → mFault (bytesI (lg.getD i default).d) = 0 ∧ (lg.getD i default).d.size ≤ 100
theorem mb_none (lg : List En) (st : List Int) (hz : ∀ i, (lg.getD i default).d.size ≤ maxLen) : ∀ k, k ≤ lg.length → (∀ x ∈ bwd lg hz k, x.1.2.k ≠ 2) → mbAt lg st lg.length = mbAt lg st (lg.length - k) := by
  intro k
  induction k with
  | zero => intro _ _; rfl
  | succ k ih =>
    intro hk hx
    rw [ih (by omega) (fun x h => hx x (by rw [bwd_succ]; exact List.mem_append.2 (.inl h)))]
    have h1 := hx (bel lg hz k) (by rw [bwd_succ]; exact List.mem_append.2 (.inr (by simp)))
    obtain ⟨q, hq⟩ : ∃ q, lg.length - k = q + 1 := ⟨lg.length - k - 1, by omega⟩
    have h2 : (bel lg hz k).1.2 = lg.getD q default := by unfold bel; simp only [show lg.length - 1 - k = q by omega]
    rw [h2] at h1
    rw [hq, show lg.length - (k + 1) = q by omega]
    show (if (lg.getD q default).k = 2 then _ else _) = _
    rw [if_neg h1]
theorem mb_found (lg : List En) (st : List Int) (hz : ∀ i, (lg.getD i default).d.size ≤ maxLen) (hg : CfgOK lg) (k : Nat) (hk : k < lg.length) (hx : ∀ x ∈ bwd lg hz k, x.1.2.k ≠ 2) (h2 : (bel lg hz k).1.2.k = 2) : mbAt lg st lg.length = (memRead (bel lg hz k).1.2.d).1 := by
  rw [mb_none lg st hz k (by omega) hx]
  obtain ⟨q, hq⟩ : ∃ q, lg.length - k = q + 1 := ⟨lg.length - k - 1, by omega⟩
  have h3 : (bel lg hz k).1.2 = lg.getD q default := by unfold bel; simp only [show lg.length - 1 - k = q by omega]
  rw [h3] at h2 ⊢
  rw [hq]
  show (if (lg.getD q default).k = 2 then _ else _) = _
  rw [if_pos h2]
  obtain ⟨f1, f2⟩ := hg q (by omega) h2
  unfold memRead
  rw [if_neg (by omega), if_pos f1]
set_option maxRecDepth 100000 in
set_option maxHeartbeats 4000000 in
theorem members_in (n : Nat) (hn : 4 ≤ n) (B b : Nat) (a : Option Addr) (c : Nat) (sa : Option Addr) (sc : Nat) (lg : List En) (st : List Int) (hz : ∀ i, (lg.getD i default).d.size ≤ maxLen) (hl : lg.length ≤ 1048576) (hg : CfgOK lg) (w : World) (hb : b < w.heap.size) (h3 : w.cell? ⟨b, 3, none⟩ = some (.slice a lg.length c)) (h4 : w.cell? ⟨b, 4, none⟩ = some (.slice sa st.length sc)) (hE : Ens w (.slice a lg.length c) lg) (hO : OwnI B w (.slice sa st.length sc) st) (hB : B ≤ w.heap.size) :
    CallsIn Fence.wide n Try.prog 71 #[.pointer (some ⟨b, 0, none⟩)] w fun e W' => ∃ v, e = .returned v ∧ OwnI B W' v (mbAt lg st lg.length) ∧ Below w.heap.size w W' ∧ (v = .slice sa st.length sc ∨ ∀ k, v.ownBlock = some k → w.heap.size ≤ k) := by
  have hdd : ∀ k : Nat, (Fence.wide.depth.isSome = true → 1 ≤ k) := fun k h => by cases h
  have h1 : 1 ≤ n := by omega
  refine callsIn_of_wp_marks Try.func71 rfl trivial ?_ rfl
  simp only [Try.ntmps71, List.size_toArray, List.length_cons, List.length_nil, Nat.reduceAdd, Nat.reduceSub, Array.replicate_succ, Array.replicate_zero, List.push_toArray, List.append_toArray, List.nil_append, List.cons_append]
  have h3' := (((Below.refl w.heap.size w).alloc (Nat.le_refl _) (.cells #[.slice none 0 0] 23)).cell (p := ⟨b, 3, none⟩) hb).trans h3
  gi_wp2_with (refine ⟨trivial, ?_⟩; (try refine ⟨hdd _, ?_⟩); gi_at_call 84; refine (back_in (n - 1) _ _ _ _).mono ?_; rintro e w' ⟨rfl, rfl⟩)
  have bR := (Boxed.new w 23 (.slice none 0 0)).alloc (.cells #[.slice a lg.length c] 27)
  have bA := Boxed.new (w.alloc (.cells #[.slice none 0 0] 23)) 27 (.slice a lg.length c)
  simp only [World.size_alloc] at bA
  have hB0 : Below w.heap.size w ((w.alloc (.cells #[.slice none 0 0] 23)).alloc (.cells #[.slice a lg.length c] 27)) := ((Below.refl _ w).alloc (Nat.le_refl _) _).alloc (by simp) _
  have hsz : ((w.alloc (.cells #[.slice none 0 0] 23)).alloc (.cells #[.slice a lg.length c] 27)).heap.size = w.heap.size + 2 := by simp
  obtain ⟨W0, hW0⟩ : ∃ W0, (w.alloc (.cells #[.slice none 0 0] 23)).alloc (.cells #[.slice a lg.length c] 27) = W0 := ⟨_, rfl⟩
  rw [hW0] at bR bA hB0 hsz ⊢
  clear hW0 h3'
  refine wpIn_rangeFunc_ownH rfl h1 (gf := 87) (lb := #[.pointer (some ⟨w.heap.size + 1, 0, none⟩)]) rfl trivial (enters_of Try.func87 (by kernel_rfl) rfl)
    (back_stops (n - 1) (w.heap.size + 1) a c lg hz hl W0 (by omega) bA.cell (hE.below hB0)) belowK_t (belowK_b (by omega)) (Below.refl _ _) (fun _ => rfl)
    (fun pre W => (((∀ x ∈ pre, x.1.2.k ≠ 2) ∧ Boxed W w.heap.size 23 (.slice none 0 0)) ∧ Boxed W (w.heap.size + 1) 27 (.slice a lg.length c)) ∧ Below w.heap.size w W)
    (fun cd pre W => ((cd = .ret ∧ ∃ p x, pre = p ++ [x] ∧ (∀ y ∈ p, y.1.2.k ≠ 2) ∧ x.1.2.k = 2) ∧ (∃ v, Boxed W w.heap.size 23 v ∧ W.ownsRow w.heap.size 3 1 v (resL pre).length ((resL pre).map (Value.int .i64)) ∧ True)) ∧ Below w.heap.size w W)
    (OwnFrom.and (OwnFrom.and (OwnFrom.and (ownFrom_pure _ _) (Own.from (boxed_own _ _ _) _)) (Own.from (boxed_own _ _ _) _)) (ownFrom_below (Nat.le_refl _) (by omega)))
    (fun cd => OwnFrom.and (OwnFrom.and (ownFrom_pure _ _) (Own.from (holdsRow_own w.heap.size w.heap.size 23 3 1 (fun pre => (resL pre).length) (fun pre => (resL pre).map (Value.int .i64)) (fun _ _ => True)) _)) (ownFrom_below (Nat.le_refl _) (by omega)))
    ⟨⟨⟨by simp, bR⟩, bA⟩, hB0⟩
    (fun x a' W => ∃ Bx, w.heap.size + 1 < Bx ∧ (W.cell? ⟨Bx, 1, none⟩ = some (.int .i64 x.1.2.k) ∧ W.cell? ⟨Bx, 2, none⟩ = some (.string x.1.2.d)) ∧ a' = { tmps := #[.pointer (some ⟨b, 0, none⟩), undef, .pointer (some ⟨w.heap.size, 0, none⟩), undef, .pointer (some ⟨Bx, 0, none⟩), undef, undef, .pointer (some ⟨b, 0, none⟩), .pointer (some ⟨b, 0, none⟩), .pointer (some ⟨b, 0, none⟩), .pointer (some ⟨b, 3, none⟩), .slice a lg.length c, .func (.func 87) #[] #[.pointer (some ⟨w.heap.size + 1, 0, none⟩)], .int .i64 (x.1.1 : Int), .agg #[.int .i64 x.1.2.t, .int .i64 x.1.2.k, .string x.1.2.d], undef, undef, undef, undef, undef, undef, undef, undef, undef, undef, undef, undef, undef, undef, undef], defers := [] })
    (fun x a' _ X Y row hs hg hr => by obtain ⟨Bx, e1, ⟨e2, e3⟩, e4⟩ := hs; exact ⟨Bx, e1, ⟨cell_kept e2 hg (fun r e => (hr r e).2), cell_kept e3 hg (fun r e => (hr r e).2)⟩, e4⟩)
    ?assign ?body ?done ?stop
  case assign =>
    rintro l pre x W K ⟨⟨⟨hp, bR1⟩, bA1⟩, hB1⟩ hK
    obtain ⟨⟨i, ft, fk, fd⟩, hd⟩ := x
    simp only [eaV, List.zip_toArray, List.zip_cons_cons, List.zip_nil_left, List.zip_nil_right, List.foldl_toArray, List.foldl_cons, List.foldl_nil, List.setIfInBounds_toArray, List.set_cons_succ, List.set_cons_zero]
    gi_wp2
    have hlt := bA1.lt
    have hX := Blk.new W #[.int .i64 ft, .int .i64 fk, .string fd] 63 W.heap.size rfl
    exact hK _ _ ((KeepsOthers.alloc _ _).from _) ((Below.refl _ W).alloc (by omega) _) ⟨⟨⟨hp, bR1.alloc _⟩, bA1.alloc _⟩, hB1.alloc hB1.size _⟩ ⟨W.heap.size, hlt, ⟨hX.cell 1 rfl, hX.cell 2 rfl⟩, rfl⟩
  case body =>
    rintro l pre x a' W hl ⟨r, hr⟩ ⟨⟨⟨hp, bR1⟩, bA1⟩, hB1⟩ ⟨Bx, hBx, ⟨c1, c2⟩, rfl⟩ hlt
    obtain ⟨⟨i, ft, fk, fd⟩, hd⟩ := x
    dsimp only at c1 c2 hd ⊢
    by_cases h2 : fk = 2
    · subst h2
      have HC := hide (implReadMembers_any fd W hd)
      gi_wp2_with fail
      refine ⟨trivial, ?_⟩
      try refine ⟨hdd _, ?_⟩
      refine (CallsIn.inRound l (callsIn_wide.2 (unhide HC))).mono ?_
      rintro e W2 ⟨v', rfl, hO2, hb2⟩
      have bR2 : Boxed W2 w.heap.size 23 (.slice none 0 0) := (hb2.block _ bR1.lt).trans bR1
      have cR := bR2.cell
      have fR := bR2.frozen
      have hlt2 := bA1.lt
      have hsw := hb2.size
      have HK : Hid (∀ v, KeepsFrom W0.heap.size W (W2.setCell ⟨w.heap.size, 0, none⟩ v)) := hide (fun v => KeepsFrom.trans ⟨hb2.size, fun k o _ hk ho => (hb2.block k (Array.getElem?_eq_some_iff.1 hk).1).trans hk⟩ ((KeepsOthers.setCell _ _ _).from _))
      have HBW : Hid (∀ v, Below w.heap.size w (W2.setCell ⟨w.heap.size, 0, none⟩ v)) := hide (fun v => (hB1.trans (hb2.mono hB1.size)).setCell (p := ⟨w.heap.size, 0, none⟩) (Nat.le_refl _) v)
      have HO2 := hide (hO2.kept ((Touch.refl (fun q => q = w.heap.size) W2).setCell ⟨w.heap.size, 0, none⟩ v' (fun _ => rfl)) (fun k hk e => by have := (hO2.lt k hk).1; omega))
      have HBX : Hid (∀ v, Boxed (W2.setCell ⟨w.heap.size, 0, none⟩ v) w.heap.size 23 v) := hide (fun v => bR2.set v)
      have HP := hide hp
      have hsh := hO2.shape
      clear hb2 hO2 HC c1 c2 hp bR1 bA1 hB1 bR2
      rcases hsh with ⟨rfl, h0⟩ | ⟨g, cap, rfl⟩
      all_goals
        gi_wp2
        refine ⟨unhide HK _, ⟨⟨rfl, _, _, rfl, unhide HP, rfl⟩, _, unhide HBX _, ?_, trivial⟩, unhide HBW _⟩
        rw [resL_app]
        exact (unhide HO2).mono (by omega)
    · have hb2 : (fk == 2) = false := by rw [beq_eq_false_iff_ne]; exact h2
      have R := hide (show ((∀ x ∈ pre ++ [(⟨(i, ⟨ft, fk, fd⟩), hd⟩ : EA)], x.1.2.k ≠ 2) ∧ Boxed W w.heap.size 23 (.slice none 0 0)) ∧ Boxed W (w.heap.size + 1) 27 (.slice a lg.length c) from ⟨⟨fun y hy => (List.mem_append.1 hy).elim (hp y) (fun e => by simp at e; subst e; exact h2), bR1⟩, bA1⟩)
      have R2 := hide hB1
      clear hp bR1 bA1 hB1
      gi_wp2
      exact ⟨KeepsFrom.refl _ _, Below.refl _ _, unhide R, unhide R2⟩
  case done =>
    rintro D zs W hD rfl ⟨⟨⟨hp, bR1⟩, bA1⟩, hB1⟩ hK
    have cR := bR1.cell
    have fR := bR1.frozen
    have c4 := (hB1.cell (p := ⟨b, 4, none⟩) hb).trans h4
    have HM := hide (mb_none lg st hz lg.length (Nat.le_refl _) hp)
    have hlt := hO.lt
    have HO := hide ((hO.below hB1).kept ((Touch.refl (fun q => q = w.heap.size) W).setCell ⟨w.heap.size, 0, none⟩ (.slice sa st.length sc) (fun _ => rfl)) (fun k hk e => by have := (hlt k hk).2; omega))
    clear hp h3 h4 hlt
    gi_wp2
    have hK' := (KeepsOthers.setCell W ⟨w.heap.size, 0, none⟩ (.slice sa st.length sc)).same D _ hK rfl
    refine ⟨by simp, .inl ⟨_, _, rfl, run_takeDeferred hK', ?_⟩⟩
    have hc5 := cell_kept (bR1.set (.slice sa st.length sc)).cell (grownBy_putObj' _ D (.deferred none)) (fun r e => by cases e; exact ⟨_, hK', rfl⟩)
    refine ⟨.slice sa st.length sc, ?_, _, rfl, ?_, (hB1.setCell (p := ⟨w.heap.size, 0, none⟩) (Nat.le_refl _) _).trans (belowK_b (w := w) (Nat.le_refl _) _ D _ _ (by omega) hK' rfl rfl), .inl rfl⟩
    · simp [results, Try.results71, go_sem, hc5]
    · rw [unhide HM, Nat.sub_self]
      exact ownsRow_putObj (unhide HO) _ hK' rfl
  case stop =>
    rintro D cd pre W hD ⟨k, hk, hpre⟩ ⟨⟨⟨rfl, p, x, hpx, hp, hx2⟩, v, bR1, hown, _⟩, hB1⟩ hK
    have HM : Hid (mbAt lg st lg.length = resL pre) := hide (by
      have hlen := congrArg List.length (hpre.symm.trans hpx)
      rw [bwd_len, List.length_append] at hlen
      simp only [List.length_cons, List.length_nil] at hlen
      obtain rfl : k = p.length + 1 := by omega
      have heq := hpre.symm.trans hpx
      rw [bwd_succ] at heq
      obtain ⟨e1, e2⟩ := List.append_inj' heq rfl
      simp only [List.cons.injEq, and_true] at e2
      rw [hpx, resL_app, ← e2]
      rw [← e1] at hp
      rw [← e2] at hx2
      exact mb_found lg st hz hg p.length (by omega) hp hx2)
    gi_wp2
    refine ⟨by simp, .inl ⟨_, _, rfl, run_takeDeferred hK, ?_⟩⟩
    have hc5 := cell_kept bR1.cell (grownBy_putObj' _ D (.deferred none)) (fun r e => by cases e; exact ⟨_, hK, rfl⟩)
    refine ⟨v, ?_, _, rfl, ?_, hB1.trans (belowK_b (w := w) (Nat.le_refl _) W D _ _ (by omega) hK rfl rfl), .inr (fun k hk => (World.ownsRow.lt hown k hk).1)⟩
    · simp [results, Try.results71, go_sem, hc5]
    · rw [unhide HM]
      exact OwnI.mono (ownsRow_putObj hown _ hK rfl) hB
theorem members_any (B b : Nat) (a : Option Addr) (c : Nat) (sa : Option Addr) (sc : Nat) (lg : List En) (st : List Int) (hz : ∀ i, (lg.getD i default).d.size ≤ maxLen) (hl : lg.length ≤ 1048576) (hg : CfgOK lg) (w : World) (hb : b < w.heap.size) (h3 : w.cell? ⟨b, 3, none⟩ = some (.slice a lg.length c)) (h4 : w.cell? ⟨b, 4, none⟩ = some (.slice sa st.length sc)) (hE : Ens w (.slice a lg.length c) lg) (hO : OwnI B w (.slice sa st.length sc) st) (hB : B ≤ w.heap.size) :
    Calls Try.prog 71 #[.pointer (some ⟨b, 0, none⟩)] w fun e W' => ∃ v, e = .returned v ∧ OwnI B W' v (mbAt lg st lg.length) ∧ Below w.heap.size w W' :=
  (callsIn_wide.1 (members_in 4 (Nat.le_refl _) B b a c sa sc lg st hz hl hg w hb h3 h4 hE hO hB)).mono (fun e W' ⟨v, h1, h2, h3, _⟩ => ⟨v, h1, h2, h3⟩)
theorem members2_any (B b : Nat) (a : Option Addr) (c : Nat) (sa : Option Addr) (sc : Nat) (lg : List En) (st : List Int) (hz : ∀ i, (lg.getD i default).d.size ≤ maxLen) (hl : lg.length ≤ 1048576) (hg : CfgOK lg) (w : World) (hb : b < w.heap.size) (h3 : w.cell? ⟨b, 3, none⟩ = some (.slice a lg.length c)) (h4 : w.cell? ⟨b, 4, none⟩ = some (.slice sa st.length sc)) (hE : Ens w (.slice a lg.length c) lg) (hO : OwnI B w (.slice sa st.length sc) st) (hB : B ≤ w.heap.size) :
    Calls Try.prog 71 #[.pointer (some ⟨b, 0, none⟩)] w fun e W' => ∃ v, e = .returned v ∧ OwnI B W' v (mbAt lg st lg.length) ∧ Below w.heap.size w W' ∧ (v = .slice sa st.length sc ∨ ∀ k, v.ownBlock = some k → w.heap.size ≤ k) :=
  callsIn_wide.1 (members_in 4 (Nat.le_refl _) B b a c sa sc lg st hz hl hg w hb h3 h4 hE hO hB)
end Go.Proofs.Ytljolldacpkeeaa
