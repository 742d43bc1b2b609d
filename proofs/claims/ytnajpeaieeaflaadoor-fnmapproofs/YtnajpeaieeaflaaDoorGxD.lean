/- A region that draws its order, in the body of a range over a function. slices.Backward of steps; (MapProof).rootBy. impl.CheckKey: proofFault, checkEmpty, onWay, rootBy. (MapProof).rootBy. -/
import Derived.RangeFuncNested
import Derived.RangeFuncWrites
import Derived.RangeFuncBox
import Derived.Shelf.Abstract
import Derived.Shelf.RegionOpen
import Derived.WalkKit
import Derived.OwnWalkIn
import Derived.TacticsInMore
import Derived.Test.YtnajpeaieeaflaaDoorBase
import Derived.Test.YtnajpeaieeaflaaDoorGxB
import Derived.Test.YtnajpeaieeaflaaDoorBrG
import Derived.Test.YtnajpeaieeaflaaDoorGxC
import Derived.RangeFuncBound
import Derived.RangeFuncCalls
import Derived.RangeFuncLeaves
import Derived.RangeFuncFrom
import Derived.LoopNIn
import Derived.LoopIn
import Derived.Test.YtnajpeaieeaflaaDoorWst
import Derived.Test.YtnajpeaieeaflaaDoorGxF
namespace Go.Proofs.YtnajpeaieeaflaaDoor.Sha
open Go.ChangeShapes Go.WideShapes Go.ChangeAt Go.RowKit Go.Shelf
set_option linter.unusedVariables false
set_option linter.unusedSimpArgs false

/-- No operation defers. -/
def noDefer (ops : Array Oper) : Bool := ops.all fun o => match o.op with | .defer _ => false | _ => true
theorem noDefer_spec {ops : Array Oper} (h : noDefer ops = true) {i : Nat} {o : Oper} (ho : ops[i]? = some o) : ∀ c, o.op ≠ .defer c := by
  intro c e
  have hm := Array.mem_of_getElem? ho
  have := (Array.all_eq_true_iff_forall_mem.1 h) o hm
  rw [e] at this
  cases this
/-- A region that draws its order, and no operation of which defers, goes in a round as it goes without one. -/
theorem wpAnyIn_round {F : Fence} {n : Nat} {P : Program} {md : Region.Mode} {ops : Array Oper} {Q : Exit → Act → World → Prop} {l : Nat} (hF : F.round = none) (hd : noDefer ops = true) :
    ∀ (fuel : Nat) (listed : Array Bool) (a : Act) (w : World), wpAnyIn F n P md ops Q fuel listed a w → wpAnyIn (F.inRound l) n P md ops Q fuel listed a w := by
  intro fuel
  induction fuel with
  | zero => intro listed a w h; exact h
  | succ fuel ih =>
    intro listed a w h
    refine ⟨h.1, fun i hi => ?_⟩
    have h3 := wpOpIn_mono (fun a w hh => ih _ a w hh) (h.2 i hi)
    unfold wpOpIn at h3 ⊢
    cases ho : ops[i]? with
    | none => simpa [ho] using h3
    | some o =>
      simp only [ho] at h3 ⊢
      by_cases hw : Region.wanted o (yielded ops a.tmps) = true
      · simp only [hw, if_true] at h3 ⊢
        unfold Oper.wpIn at h3 ⊢
        refine ⟨h3.1, ?_⟩
        have h4 := h3.2
        rw [Oper.semAt_eq _ _ _ (noDefer_spec hd ho)] at h4 ⊢
        generalize (execOp a.eval o).run P w = r at *
        cases r with
        | ok x w' => cases x <;> exact h4
        | halt x w' => cases x <;> exact h4
      · simp only [hw, Bool.false_eq_true, if_false] at h3 ⊢
        exact h3
end Go.Proofs.YtnajpeaieeaflaaDoor.Sha
namespace Go.Proofs.YtnajpeaieeaflaaDoor.Sha
open Go.ChangeShapes Go.WideShapes Go.ChangeAt Go.RowKit Go.Shelf
set_option linter.unusedVariables false
set_option linter.unusedSimpArgs false
attribute [local go_sem] Oper.semAt_some

/-- A place's number, and the step that lies there. -/
abbrev MA (l : List Pk) := { x : Nat × Pk // x.1 < l.length ∧ x.2 = l.getD x.1 default }
def maV {l : List Pk} (x : MA l) : Array Value := #[.int .i64 (x.1.1 : Int), .agg #[.int .i64 x.1.2.s, .string x.1.2.h]]
/-- What comes in round j from the end on. -/
def mel (l : List Pk) (j : Nat) (h : j < l.length) : MA l := ⟨(l.length - 1 - j, l.getD (l.length - 1 - j) default), by dsimp only; omega, rfl⟩
def mwd (l : List Pk) : (k : Nat) → k ≤ l.length → List (MA l)
  | 0, _ => []
  | k + 1, h => mwd l k (by omega) ++ [mel l k (by omega)]
theorem mwd_len (l : List Pk) : ∀ (k : Nat) (h : k ≤ l.length), (mwd l k h).length = k := by
  intro k
  induction k with
  | zero => intro h; rfl
  | succ k ih => intro h; simp [mwd, ih]
/-- What lies below n₀ stays, and a box of the caller's too. -/
def KpM (n₀ Bs : Nat) (V : Value) (A B : World) : Prop := Below n₀ A B ∧ (A.cell? ⟨Bs, 0, none⟩ = some V → B.cell? ⟨Bs, 0, none⟩ = some V)
theorem kpM_t {n₀ Bs : Nat} {V : Value} {A B C : World} (h : KpM n₀ Bs V A B) (k : KpM n₀ Bs V B C) : KpM n₀ Bs V A C := ⟨h.1.trans k.1, fun e => k.2 (h.2 e)⟩
theorem kpM_b {n₀ Bs : Nat} {V : Value} {w : World} (hn : n₀ ≤ w.heap.size) (W : World) (l : Nat) (o o' : Obj) (hl : w.heap.size ≤ l) (h : W.heap[l]? = some o) (h1 : o.isCells = false) (h2 : o.isWalk = false) : KpM n₀ Bs V W (W.putObj l o') :=
  ⟨belowK_b hn W l o o' hl h h1 h2, fun e => cell_kept e (grownBy_putObj' W l o') (fun r e => by cases e; exact ⟨_, h, h1⟩)⟩
set_option maxRecDepth 100000 in
set_option maxHeartbeats 2000000 in
theorem backM_in (n l Bs n₀ : Nat) (a : Option Addr) (c : Nat) (lg : List Pk) (hl : lg.length ≤ 1048576) (J Jx : List (MA lg) → World → Prop)
    (hY : ∀ pre x W, J pre W → pre.length < lg.length → YieldAt Fence.wide (n - 1) Tryd.prog l (maV x) W fun e W' =>
      (e = .returned (.bool true) ∧ J (pre ++ [x]) W' ∧ KpM n₀ Bs (.slice a lg.length c) W W') ∨ (e = .returned (.bool false) ∧ Jx (pre ++ [x]) W'))
    (W : World) (hBs : W.cell? ⟨Bs, 0, none⟩ = some (.slice a lg.length c))
    (hc : ∀ q, q < lg.length → ∃ b off, a = some ⟨b, off, none⟩ ∧ b < n₀ ∧ W.cell? ⟨b, off + q * 2, none⟩ = some (.int .i64 (lg.getD q default).s) ∧ W.cell? ⟨b, off + q * 2 + 1, none⟩ = some (.string (lg.getD q default).h)) (h0 : J [] W) :
    CallsIn Fence.wide n Tryd.prog 89 #[.func (.yield l) #[] #[], .pointer (some ⟨Bs, 0, none⟩)] W fun e W' => (∃ v, e = .returned v) ∧
      ((∃ ys, ys = mwd lg lg.length (Nat.le_refl _) ∧ J ys W') ∨ (∃ pre, (∃ k, ∃ h : k ≤ lg.length, pre = mwd lg k h) ∧ Jx pre W')) := by
  have w0 : IntKind.i64.wrap ((lg.length : Int) - 1) = (lg.length : Int) - 1 := by
    simp only [IntKind.wrap, IntKind.bits, IntKind.signed]
    simp
    omega
  refine callsIn_of_wp Tryd.func89 rfl trivial ?_ rfl
  simp only [Tryd.ntmps89, List.size_toArray, List.length_cons, List.length_nil, Nat.reduceAdd, Nat.reduceSub, Array.replicate_succ, Array.replicate_zero, List.push_toArray, List.append_toArray, List.nil_append, List.cons_append]
  gi_wp2
  gi_loopw [3] (fun i wr => ∃ (k : Nat) (z : Int) (hk : k ≤ lg.length), z = (lg.length : Int) - 1 - (k : Int) ∧ i = .int .i64 z ∧ J (mwd lg k hk) wr ∧ KpM n₀ Bs (.slice a lg.length c) W wr) (fun i _ => (intOf i + 1).toNat)
  case atStart => exact ⟨0, _, Nat.zero_le _, by simp, rfl, h0, Below.refl _ _, fun e => e⟩
  case round =>
    obtain ⟨k, z, hk, hzz, rfl, hJs, hnx⟩ := hrel
    have hcb := hnx.2 hBs
    by_cases hlt : k < lg.length
    · obtain ⟨q, hq⟩ : ∃ q, lg.length = k + q + 1 := ⟨lg.length - k - 1, by omega⟩
      obtain rfl : z = (q : Int) := by omega
      have hqn : q < lg.length := by omega
      obtain ⟨b, off, rfl, hbn, s0, s1⟩ := hc q hqn
      have e0 := (hnx.1.cell (p := ⟨b, off + q * 2, none⟩) hbn).trans s0
      have e1 := (hnx.1.cell (p := ⟨b, off + q * 2 + 1, none⟩) hbn).trans s1
      obtain ⟨fn, tmps, assign, body, hy, hR⟩ := hY _ ⟨(q, lg.getD q default), hqn, rfl⟩ wr hJs (by rw [mwd_len]; exact hlt)
      have HJ2 : Hid (mwd lg k hk ++ [⟨(q, lg.getD q default), hqn, rfl⟩] = mwd lg (k + 1) hlt) := hide (by
        show _ = mwd lg k _ ++ [mel lg k _]
        congr 1; congr 1
        refine Subtype.ext ?_
        show (q, lg.getD q default) = (lg.length - 1 - k, lg.getD (lg.length - 1 - k) default)
        rw [show lg.length - 1 - k = q by omega])
      dsimp only [maV] at hy e0 e1
      have m0 : (0 : Int) ≤ (q : Int) := by omega
      have m1 : (q : Int) < (lg.length : Int) := by omega
      have m2 : IntKind.i64.wrap ((q : Int) - 1) = (q : Int) - 1 := by
        simp only [IntKind.wrap, IntKind.bits, IntKind.signed]
        simp
        omega
      have HX := hide (And.intro hq hzz)
      have HLT := hide hlt
      clear hc s0 s1 hq hzz
      have HR := hide hR
      have HJ3 := HJ2
      clear hR HJ2
      generalize hfs : (lg.getD q default).s = fs at *
      generalize hfh : (lg.getD q default).h = fh at *
      clear hfs hfh
      gi_wp2
      refine ⟨fun h => (by cases h), ?_⟩
      refine (unhide HR).mono ?_
      rintro e W3 (⟨rfl, hJ3, hk3⟩ | ⟨rfl, hJx3⟩)
      · have R := hide (And.intro hJ3 (kpM_t hnx hk3))
        clear hJ3 hk3
        gi_wp2
        go_roundw
        case rel =>
          obtain ⟨hq, hzz⟩ := unhide HX
          exact ⟨k + 1, _, unhide HLT, by omega, rfl, by rw [← unhide HJ3]; exact (unhide R).1, (unhide R).2⟩
        case measure => first | (simp [intOf]; done) | (simp [intOf]; omega)
      · gi_wp2
        refine bodyPost_ret (results_none rfl _ _ _) rfl ?_
        exact ⟨⟨_, rfl⟩, .inr ⟨_, ⟨k + 1, unhide HLT, (unhide HJ3)⟩, hJx3⟩⟩
    · obtain rfl : k = lg.length := by omega
      obtain rfl : z = -1 := by omega
      gi_wp2
      go_end0
      exact ⟨⟨_, rfl⟩, .inl ⟨_, rfl, hJs⟩⟩
/-- An element of a readable list of steps. -/
theorem pks_term {w : World} {a : Option Addr} {cap : Nat} {l : List Pk} (h : Pks w (.slice a l.length cap) l) (i : Nat) (hi : i < l.length) :
    ∃ b off, a = some ⟨b, off, none⟩ ∧ b < w.heap.size ∧ w.cell? ⟨b, off + i * 2, none⟩ = some (.int .i64 (l.getD i default).s) ∧ w.cell? ⟨b, off + i * 2 + 1, none⟩ = some (.string (l.getD i default).h) := by
  obtain ⟨a', cap', e, _, _, hc⟩ := h
  cases e
  rcases hc with h0 | ⟨b, off, ha, hlt, hc⟩
  · omega
  · exact ⟨b, off, ha, hlt, (hc i hi).1, (hc i hi).2⟩
theorem backM_stops (n Bs n₀ : Nat) (a : Option Addr) (c : Nat) (lg : List Pk) (hl : lg.length ≤ 1048576) (w wp : World) (hBs : Bs < w.heap.size) (hn₀ : wp.heap.size ≤ n₀)
    (hc : w.cell? ⟨Bs, 0, none⟩ = some (.slice a lg.length c)) (hE : Pks wp (.slice a lg.length c) lg) (hwp : Below wp.heap.size wp w) :
    SeqStopsK Fence.wide n Tryd.prog 89 #[.pointer (some ⟨Bs, 0, none⟩)] maV (KpM n₀ Bs (.slice a lg.length c)) (fun ys => ys = mwd lg lg.length (Nat.le_refl _)) (fun pre => ∃ k, ∃ h : k ≤ lg.length, pre = mwd lg k h) lg.length w := fun l J Jx W hW _ _ hY h0 =>
  backM_in n l Bs n₀ a c lg hl J Jx hY W ((hW.cell (p := ⟨Bs, 0, none⟩) hBs).trans hc) (fun q hq => by
    obtain ⟨b, off, ha, hb, s0, s1⟩ := pks_term hE q hq
    have hb2 : b < w.heap.size := Nat.lt_of_lt_of_le hb hwp.size
    exact ⟨b, off, ha, Nat.lt_of_lt_of_le hb hn₀, (hW.cell (p := ⟨b, off + q * 2, none⟩) hb2).trans ((hwp.cell (p := ⟨b, off + q * 2, none⟩) hb).trans s0), (hW.cell (p := ⟨b, off + q * 2 + 1, none⟩) hb2).trans ((hwp.cell (p := ⟨b, off + q * 2 + 1, none⟩) hb).trans s1)⟩) h0
set_option maxHeartbeats 1000000 in
theorem backM_new (n : Nat) (a : Option Addr) (len c : Nat) (w : World) :
    CallsIn Fence.wide n Tryd.prog 68 #[.slice a len c] w fun e w' => e = .returned (.func (.func 89) #[] #[.pointer (some ⟨w.heap.size, 0, none⟩)]) ∧ w' = w.alloc (.cells #[.slice a len c] 30) := by
  refine callsIn_of_wp Tryd.func68 rfl trivial ?_ rfl
  simp only [Tryd.ntmps68, List.size_toArray, List.length_cons, List.length_nil, Nat.reduceAdd, Nat.reduceSub, Array.replicate_succ, Array.replicate_zero, List.push_toArray, List.append_toArray, List.nil_append, List.cons_append]
  gi_wp2
  go_ret
  exact ⟨rfl, rfl⟩
/-- The root behind the rounds so far. -/
def rtP (h leaf : ByteArray) {l : List Pk} (pre : List (MA l)) : ByteArray := pre.foldl (fun r x => sideR (bitN h x.1.2.s.toNat) x.1.2.s.toNat r x.1.2.h) leaf
theorem rtP_app (h leaf : ByteArray) {l : List Pk} (pre : List (MA l)) (x : MA l) : rtP h leaf (pre ++ [x]) = sideR (bitN h x.1.2.s.toNat) x.1.2.s.toNat (rtP h leaf pre) x.1.2.h := by
  unfold rtP; rw [List.foldl_append]; rfl
theorem rtP_to (h leaf : ByteArray) (l : List Pk) : ∀ (k : Nat) (hk : k ≤ l.length), rtP h leaf (mwd l k hk) = rootBy h leaf (l.drop (l.length - k)) := by
  intro k
  induction k with
  | zero => intro hk; rw [Nat.sub_zero, List.drop_length]; rfl
  | succ k ih =>
    intro hk
    show rtP h leaf (mwd l k _ ++ [mel l k _]) = _
    rw [rtP_app, ih (by omega)]
    have hq : l.length - (k + 1) < l.length := by omega
    rw [List.drop_eq_getElem_cons hq, show l.length - (k + 1) + 1 = l.length - k by omega]
    have e : (mel l k (by omega)).1.2 = l[l.length - (k + 1)] := by
      show l.getD (l.length - 1 - k) default = _
      rw [show l.length - 1 - k = l.length - (k + 1) by omega, List.getD_eq_getElem?_getD, List.getElem?_eq_getElem hq]; rfl
    rw [e]
    rfl
theorem rtP_all (h leaf : ByteArray) (l : List Pk) : rtP h leaf (mwd l l.length (Nat.le_refl _)) = rootBy h leaf l := by
  rw [rtP_to, Nat.sub_self, List.drop_zero]
end Go.Proofs.YtnajpeaieeaflaaDoor.Sha
namespace Go.Proofs.YtnajpeaieeaflaaDoor.Sha
open Go.ChangeShapes Go.WideShapes Go.ChangeAt Go.RowKit Go.Shelf
set_option linter.unusedVariables false
set_option linter.unusedSimpArgs false
attribute [local go_sem] Oper.semAt_some

set_option maxRecDepth 100000 in
set_option maxHeartbeats 2000000 in
theorem proofFault_any (f : Bool) (k v : ByteArray) (a : Option Addr) (cap : Nat) (l : List Pk) (w : World) (h : Pks w (.slice a l.length cap) l) (hs : stepsB 0 l) (hv : v.size ≤ 60) :
    Calls Tryd.prog 29 #[.agg #[.bool f, .string k, .string v, .slice a l.length cap]] w fun e w' => e = .returned (.int .i64 0) ∧ Below w.heap.size w w' := by
  have hle := stepsB_len l 0 hs (by omega)
  have B0 := hide ((Below.refl w.heap.size w).alloc (Nat.le_refl _) (.cells #[.bool f, .string k, .string v, .slice a l.length cap] 32))
  have X0 := hide (Blk.new w #[.bool f, .string k, .string v, .slice a l.length cap] 32 w.heap.size rfl)
  have H0 := hide (h.below (unhide B0))
  have HS := hide hs
  have HG := hide (fun i hi => stepsB_get l 0 hs i hi)
  have HN := hide (fun i hi => stepsB_next l 0 hs i hi)
  clear h hs
  go_enter Tryd.func29, Tryd.ntmps29
  go_wp2_with fail
  generalize w.alloc (.cells #[.bool f, .string k, .string v, .slice a l.length cap] 32) = w0 at *
  generalize hP : w.heap.size = P at *
  have hP0 : P < w0.heap.size := (unhide X0).1
  go_loopw [3, 9] (fun ov i wr => ∃ (q : Nat) (x : Int), q ≤ l.length ∧ i = .int .i64 q ∧ ov = .int .i64 x ∧ 0 ≤ x ∧ (q < l.length → x ≤ (l.getD q default).s) ∧ Below w0.heap.size w0 wr) (fun _ i _ => l.length - (intOf i).toNat)
  case atStart =>
    refine ⟨0, 0, Nat.zero_le _, rfl, rfl, by omega, fun h0 => ?_, Below.refl _ _⟩
    obtain ⟨b, e, _⟩ := unhide HG 0 h0
    omega
  case round =>
    obtain ⟨q, x, hq, rfl, rfl, hx0, hx, hb⟩ := hrel
    by_cases hlt : q < l.length
    · obtain ⟨g, off, rfl, hgl, c0, c1⟩ := pks_term ((unhide H0).below hb) q hlt
      have hk0 : (0 : Int) ≤ (q : Int) := by omega
      have hk1 : (q : Int) < (l.length : Int) := by omega
      have hx1 := hx hlt
      obtain ⟨n, en, hn0, hn1, hn2⟩ := unhide HG q hlt
      have HNX := hide (fun h1 => unhide HN q h1)
      have HB := hide hb
      have hbs := hb.size
      clear hb hx
      generalize l.getD q default = ff at *
      obtain ⟨s, hh⟩ := ff
      dsimp only at c0 c1 hx1 en hn2 HNX
      subst en
      have B1 := hide ((unhide HB).alloc hbs (.cells #[.int .i64 (n : Int), .string hh] 53))
      have X1 := hide (Blk.new wr #[.int .i64 (n : Int), .string hh] 53 wr.heap.size rfl)
      have I1 := hide (fun wx => within_any n x 255 wx)
      have hin : inB (n : Int) x 255 = true := inB_iff.2 ⟨hx1, by omega⟩
      rw [hin] at I1
      have I2 := hide (fun wx => notHash_any hh wx (by unfold maxLen; omega))
      rw [show (!decide (hh.size = 32)) = false by simp [hn2]] at I2
      clear hin
      go_wp2_with fail
      generalize wr.alloc (.cells #[.int .i64 (n : Int), .string hh] 53) = w1 at *
      have x0 := (unhide X1).cell 0 rfl
      have x1 := (unhide X1).cell 1 rfl
      refine (unhide I1 w1).mono ?_
      rintro e w9 ⟨rfl, hw9⟩
      subst w9
      go_wp2_with fail
      refine (unhide I2 w1).mono ?_
      rintro e w9 ⟨rfl, hw9⟩
      subst w9
      clear I1 I2
      have HQ : Hid (q + 1 < l.length → (n : Int) + 1 ≤ (l.getD (q + 1) default).s) := hide (fun h1 => by have := unhide HNX h1; omega)
      go_wp2_with fail
      refine ⟨⟨q + 1, (n : Int) + 1, by omega, by go_num, by go_num, by omega, unhide HQ, unhide B1⟩, ?_⟩
      simp [intOf]; omega
    · subst hP
      obtain rfl : q = l.length := by omega
      have y2 := (hb.cell (p := ⟨w.heap.size, 2, none⟩) hP0).trans ((unhide X0).cell 2 rfl)
      have R := hide ((unhide B0).trans (hb.mono (unhide B0).size))
      clear hb
      go_wp2_with fail
      go_ret
      exact ⟨rfl, unhide R⟩
set_option maxRecDepth 100000 in
set_option maxHeartbeats 2000000 in
theorem onWay_any (x y : ByteArray) (a : Option Addr) (cap : Nat) (l : List Pk) (w : World) (h : Pks w (.slice a l.length cap) l) (hs : stepsB 0 l) (hx : x.size = 32) (hy : y.size = 32) :
    Calls Tryd.prog 32 #[.slice a l.length cap, .string x, .string y] w fun e w' => e = .returned (.bool (wayB x y l)) ∧ Below w.heap.size w w' := by
  have hle := stepsB_len l 0 hs (by omega)
  have H0 := hide h
  have HG := hide (fun i hi => stepsB_get l 0 hs i hi)
  have HW : Hid (∀ q, q < l.length → wayB x y (l.drop q) = (decide (bitN x (l.getD q default).s.toNat = bitN y (l.getD q default).s.toNat) && wayB x y (l.drop (q + 1)))) := hide (fun q hq => by
    rw [List.drop_eq_getElem_cons hq]
    have : l.getD q default = l[q] := by rw [List.getD_eq_getElem?_getD, List.getElem?_eq_getElem hq]; rfl
    rw [this]
    rfl)
  have HE : Hid (wayB x y (l.drop l.length) = true) := hide (by rw [List.drop_length]; rfl)
  have HZ : Hid (wayB x y (l.drop 0) = wayB x y l) := hide (by rw [List.drop_zero])
  clear h hs
  go_enter Tryd.func32, Tryd.ntmps32
  go_wp2_with fail
  go_loopw [11] (fun i wr => ∃ (q : Nat), q ≤ l.length ∧ i = .int .i64 q ∧ wayB x y (l.drop q) = wayB x y l ∧ Below w.heap.size w wr) (fun i _ => l.length - (intOf i).toNat)
  case atStart => exact ⟨0, Nat.zero_le _, rfl, unhide HZ, Below.refl _ _⟩
  case round =>
    obtain ⟨q, hq, rfl, hd, hb⟩ := hrel
    by_cases hlt : q < l.length
    · obtain ⟨g, off, rfl, hgl, c0, c1⟩ := pks_term ((unhide H0).below hb) q hlt
      have hk0 : (0 : Int) ≤ (q : Int) := by omega
      have hk1 : (q : Int) < (l.length : Int) := by omega
      obtain ⟨n, en, hn0, hn1, hn2⟩ := unhide HG q hlt
      have HD := hide (hd.symm.trans (unhide HW q hlt))
      have HB := hide hb
      have hbs := hb.size
      clear hb hd
      generalize l.getD q default = ff at *
      obtain ⟨s, hh⟩ := ff
      dsimp only at c0 c1 en hn2 HD
      subst en
      rw [Int.toNat_natCast] at HD
      have B1 := hide ((unhide HB).alloc hbs (.cells #[.int .i64 n, .string hh] 53))
      have X1 := hide (Blk.new wr #[.int .i64 n, .string hh] 53 wr.heap.size rfl)
      have I1 := hide (fun wx => hashBit_any x n wx hx hn1)
      have I2 := hide (fun wx => hashBit_any y n wx hy hn1)
      generalize bitN x n = bx at *
      generalize bitN y n = by_ at *
      go_upto_region 4 with fail
      generalize wr.alloc (.cells #[.int .i64 n, .string hh] 53) = w1 at *
      generalize wr.heap.size = X at *
      have x0 := (unhide X1).cell 0 rfl
      --REG
      refine wp_region_noPanic ?_
      refine wp_region_held_drew (S := (fun wx => wx.cell? ⟨X, 0, none⟩ = some (.int .i64 (n : Int)))) (by kernel_rfl) ?_ (fun hHeld => ?_)
      · exact x0
      refine tkH 0 rfl ?_
      refine tkH 1 rfl ?_
      refine tkH 2 rfl ?_
      refine tkH 4 rfl ?_
      refine tkH 5 rfl ?_
      refine tkH 6 rfl ?_
      refine wpAnyH_ready (rs := [3]) (by kernel_rfl) (by simp) ?_
      refine AllReadyH.cons (o := _) rfl (fun K hK => ?_) AllReadyH.nil
      go_simp
      refine (unhide I1 _).mono ?_
      rintro e w9 ⟨rfl, hw9⟩
      subst w9
      go_wp2_with fail
      refine hK.out _ _ ?_ (fun hHeld => ?_)
      · exact x0
      clear hK K
      (try simp only [Act.put, List.getElem_toArray, List.getElem_cons_succ, List.getElem_cons_zero, List.setIfInBounds_toArray, List.set_cons_zero, List.set_cons_succ])
      refine wpAnyH_ready (rs := [7]) (by kernel_rfl) (by simp) ?_
      refine AllReadyH.cons (o := _) rfl (fun K hK => ?_) AllReadyH.nil
      go_simp
      refine (unhide I2 _).mono ?_
      rintro e w9 ⟨rfl, hw9⟩
      subst w9
      go_wp2_with fail
      refine hK.out _ _ ?_ (fun hHeld => ?_)
      · exact x0
      clear hK K
      (try simp only [Act.put, List.getElem_toArray, List.getElem_cons_succ, List.getElem_cons_zero, List.setIfInBounds_toArray, List.set_cons_zero, List.set_cons_succ])
      refine tkH 8 rfl ?_
      refine wpAnyH_done (by kernel_rfl) (NoPanic.normal ?_) _
      by_cases hbb : bx = by_
      · subst hbb
        have HD2 : Hid (wayB x y (l.drop (q + 1)) = wayB x y l) := hide (by rw [unhide HD]; simp)
        go_wp2_with fail
        refine ⟨⟨q + 1, by omega, by go_num, unhide HD2, below_drewN (unhide B1) 1⟩, ?_⟩
        simp [intOf]; omega
      · have HF : Hid (wayB x y l = false) := hide (by rw [unhide HD]; simp [hbb])
        have hne : (bx == by_) = false := by rw [beq_eq_false_iff_ne]; exact hbb
        have hbn := HF
        clear hbb
        go_wp2_with fail
        go_ret
        exact ⟨ret_bool (unhide HF).symm, below_drewN (unhide B1) 1⟩
    · obtain rfl : q = l.length := by omega
      have R := hide hb
      have HF : Hid (wayB x y l = true) := hide (by rw [← hd]; exact unhide HE)
      clear hb hd
      go_wp2_with fail
      go_ret
      exact ⟨ret_bool (unhide HF).symm, unhide R⟩
end Go.Proofs.YtnajpeaieeaflaaDoor.Sha
namespace Go.Proofs.YtnajpeaieeaflaaDoor.Sha
open Go.ChangeShapes Go.WideShapes Go.ChangeAt Go.RowKit Go.Shelf
set_option linter.unusedVariables false
set_option linter.unusedSimpArgs false
attribute [local go_sem] Oper.semAt_some

theorem BoxedB.blw {W W' : World} {b : Nat} {t : TypeId} {v : Value} (h : Boxed W b t v) (hb : Below W.heap.size W W') : Boxed W' b t v := (hb.block b h.lt).trans h
set_option maxRecDepth 100000 in
set_option maxHeartbeats 8000000 in
theorem rootByM_any (h : ByteArray) (f : Bool) (k v : ByteArray) (a : Option Addr) (cap : Nat) (l : List Pk) (w : World) (hp : Pks w (.slice a l.length cap) l) (hs : stepsB 0 l) (hh : h.size = 32) (hk : k.size ≤ 24) (hv : v.size ≤ 60) (ht : Tab w) :
    Calls Tryd.prog 33 #[.agg #[.bool f, .string k, .string v, .slice a l.length cap], .string h] w fun e w' => e = .returned (.string (rootBy h (lfR k v) l)) ∧ Below w.heap.size w w' := by
  refine (callsIn_wide (n := 5)).1 ?_
  have hdd : ∀ k : Nat, (Fence.wide.depth.isSome = true → 1 ≤ k) := fun k h => by cases h
  have hle := stepsB_len l 0 hs (by omega)
  have HG := hide (fun i hi => stepsB_get l 0 hs i hi)
  have HRA := hide (rtP_all h (lfR k v) l)
  have hlz := lfR_size hk hv
  have B0 := ((Below.refl w.heap.size w).alloc (Nat.le_refl _) (.cells #[.bool f, .string k, .string v, .slice a l.length cap] 32)).alloc (by simp) (.cells #[.string h] 9)
  have HB0 := hide B0
  have X0 := hide ((Blk.new w #[.bool f, .string k, .string v, .slice a l.length cap] 32 w.heap.size rfl).alloc (.cells #[.string h] 9))
  have bH := Boxed.new (w.alloc (.cells #[.bool f, .string k, .string v, .slice a l.length cap] 32)) 9 (.string h)
  simp only [World.size_alloc] at bH
  have BH := hide bH
  have HLR := hide (leafRoot_any k v _ hk hv (ht.below B0))
  have HP := hide hp
  have HPW := hide hp
  have HT := hide ht
  have x1 := (unhide X0).cell 1 rfl
  have x2 := (unhide X0).cell 2 rfl
  clear B0 bH hp ht hs
  refine callsIn_of_wp_marks Tryd.func33 rfl trivial ?_ rfl
  simp only [Tryd.ntmps33, List.size_toArray, List.length_cons, List.length_nil, Nat.reduceAdd, Nat.reduceSub, Array.replicate_succ, Array.replicate_zero, List.push_toArray, List.append_toArray, List.nil_append, List.cons_append]
  gi_wp2_with fail
  generalize (w.alloc (.cells #[.bool f, .string k, .string v, .slice a l.length cap] 32)).alloc (.cells #[.string h] 9) = w0 at *
  refine ⟨trivial, ?_⟩
  try refine ⟨hdd _, ?_⟩
  refine ((callsIn_wide (n := 4)).2 (unhide HLR)).mono ?_
  rintro e w1 ⟨rfl, hb1⟩
  have B1 := hide ((unhide HB0).trans (hb1.mono (unhide HB0).size))
  have X1 := hide ((unhide X0).below hb1)
  have BH1 := hide (BoxedB.blw (unhide BH) hb1)
  have P1 := hide ((unhide HP).below ((unhide HB0).trans (hb1.mono (unhide HB0).size)))
  clear hb1 HLR X0 BH HP HB0 x1 x2
  generalize hlf : lfR k v = lf at *
  have x3 := (unhide X1).cell 3 rfl
  have A1 := (Below.refl w1.heap.size w1).alloc (Nat.le_refl _) (.cells #[.string lf] 9)
  have X2 := hide ((unhide X1).below A1)
  have bR := hide (Boxed.new w1 9 (.string lf))
  have BH2 := hide (BoxedB.blw (unhide BH1) A1)
  have B2 := hide ((unhide B1).trans (A1.mono (unhide B1).size))
  have P2 := hide ((unhide P1).below A1)
  have z3 := (A1.cell (p := ⟨w.heap.size, 3, none⟩) (unhide X1).1).trans x3
  clear A1 x3
  gi_wp2_with fail
  generalize hw2 : w1.alloc (.cells #[.string lf] 9) = w2 at *
  refine ⟨trivial, ?_⟩
  try refine ⟨hdd _, ?_⟩
  refine (backM_new 4 _ _ _ _).mono ?_
  rintro e w9 ⟨rfl, hw9⟩
  subst w9
  have A2 := (Below.refl w2.heap.size w2).alloc (Nat.le_refl _) (.cells #[.slice a l.length cap] 30)
  have bA := hide (Boxed.new w2 30 (.slice a l.length cap))
  have bR3 := hide (BoxedB.blw (unhide bR) A2)
  have BH3 := hide (BoxedB.blw (unhide BH2) A2)
  have B3 := hide ((unhide B2).trans (A2.mono (unhide B2).size))
  have P3 := hide ((unhide P2).below A2)
  have hRB : w1.heap.size < w2.heap.size := (unhide bR).lt
  have hHB : w.heap.size + 1 < w1.heap.size := (unhide BH1).lt
  clear A2 X1 X2 z3 B1 B2 P1 P2 bR BH1 BH2
  have hw3s : (w2.alloc (.cells #[.slice a l.length cap] 30)).heap.size = w2.heap.size + 1 := by simp
  gi_wp2_with fail
  generalize w2.alloc (.cells #[.slice a l.length cap] 30) = w3 at *
  refine wpIn_rangeFunc_ownH rfl (by omega) (gf := 89) (lb := #[.pointer (some ⟨w2.heap.size, 0, none⟩)]) rfl trivial (enters_of Tryd.func89 (by kernel_rfl) rfl)
    (backM_stops 4 w2.heap.size w1.heap.size a cap l (by omega) w3 w (unhide bA).lt (Nat.le_trans (by omega) (Nat.le_of_lt hHB)) (unhide bA).cell (unhide HPW) (unhide B3)) kpM_t (kpM_b (by omega)) (Below.refl _ _) (fun _ => rfl)
    (fun pre W => ((((rtP h lf pre).size = 32 ∧ Boxed W w1.heap.size 9 (.string (rtP h lf pre))) ∧ Boxed W (w.heap.size + 1) 9 (.string h)) ∧ Boxed W w2.heap.size 30 (.slice a l.length cap)) ∧ Below w.heap.size w W)
    (fun _ _ _ => False)
    (OwnFrom.and (OwnFrom.and (OwnFrom.and (OwnFrom.and (ownFrom_pure _ _) (Own.from (boxed_own _ _ _) _)) (Own.from (boxed_own _ _ _) _)) (Own.from (boxed_own _ _ _) _)) (ownFrom_below (Nat.le_refl _) (unhide B3).size))
    (fun _ _ _ _ _ hs _ _ => hs)
    ⟨⟨⟨⟨hlz, unhide bR3⟩, unhide BH3⟩, unhide bA⟩, unhide B3⟩
    (fun x a' W => ∃ Bx, w3.heap.size ≤ Bx ∧ Bx < W.heap.size ∧ (W.cell? ⟨Bx, 0, none⟩ = some (.int .i64 x.1.2.s) ∧ W.cell? ⟨Bx, 1, none⟩ = some (.string x.1.2.h)) ∧ a' = { tmps := #[.agg #[.bool f, .string k, .string v, .slice a l.length cap], .string h, .pointer (some ⟨w.heap.size, 0, none⟩), .pointer (some ⟨w.heap.size + 1, 0, none⟩), .string ⟨#[]⟩, .pointer (some ⟨w1.heap.size, 0, none⟩), undef, .pointer (some ⟨Bx, 0, none⟩), undef, undef, .pointer (some ⟨w.heap.size, 1, none⟩), .string k, .pointer (some ⟨w.heap.size, 2, none⟩), .string v, .string lf, .pointer (some ⟨w.heap.size, 3, none⟩), .slice a l.length cap, .func (.func 89) #[] #[.pointer (some ⟨w2.heap.size, 0, none⟩)], .int .i64 (x.1.1 : Int), .agg #[.int .i64 x.1.2.s, .string x.1.2.h], undef, undef, undef, undef, undef, undef, undef, undef, undef, undef, undef, undef, undef, undef, undef, undef, undef], defers := [] })
    (fun x a' _ X Y row hs hg hr => by obtain ⟨Bx, e1, e2, ⟨e3, e4⟩, e5⟩ := hs; exact ⟨Bx, e1, Nat.lt_of_lt_of_le e2 hg.size, ⟨cell_kept e3 hg (fun r e => (hr r e).2), cell_kept e4 hg (fun r e => (hr r e).2)⟩, e5⟩)
    ?assign ?body ?done ?stop
  case assign =>
    rintro l' pre x W K ⟨⟨⟨⟨hsz, bR1⟩, bH1⟩, bA1⟩, hB1⟩ hK
    obtain ⟨⟨i, s, x⟩, hi, hst⟩ := x
    simp only [maV, List.zip_toArray, List.zip_cons_cons, List.zip_nil_left, List.zip_nil_right, List.foldl_toArray, List.foldl_cons, List.foldl_nil, List.setIfInBounds_toArray, List.set_cons_succ, List.set_cons_zero]
    gi_wp2
    have hlt := bA1.lt
    have hX := Blk.new W #[.int .i64 s, .string x] 53 W.heap.size rfl
    have hw3 : w3.heap.size ≤ W.heap.size := by omega
    exact hK _ _ ((KeepsOthers.alloc _ _).from _) ⟨(Below.refl _ W).alloc (by omega) _, fun e => (bA1.alloc _).cell⟩ ⟨⟨⟨⟨hsz, bR1.alloc _⟩, bH1.alloc _⟩, bA1.alloc _⟩, hB1.alloc hB1.size _⟩ ⟨W.heap.size, hw3, by simp, ⟨hX.cell 0 rfl, hX.cell 1 rfl⟩, rfl⟩
  case body =>
    rintro l' pre x a' W hl' ⟨r, hr⟩ ⟨⟨⟨⟨hsz, bR1⟩, bH1⟩, bA1⟩, hB1⟩ ⟨Bx, hBx, hBl, ⟨c0, c1⟩, rfl⟩ hlt
    obtain ⟨n, en, hlo, hn, hz⟩ := unhide HG x.1.1 x.2.1
    clear hlo
    rw [← x.2.2] at en hz
    obtain ⟨pn, hpn⟩ : ∃ pn, pn = pre ++ [x] := ⟨_, rfl⟩
    rw [← hpn]
    have HAPP : Hid (rtP h lf pn = sideR (bitN h x.1.2.s.toNat) x.1.2.s.toNat (rtP h lf pre) x.1.2.h) := hide (by rw [hpn]; exact rtP_app h lf pre x)
    clear hpn
    have HBT := hide (fun wx => hashBit_any h n wx hh hn)
    obtain ⟨⟨i, s, y⟩, hi, hst⟩ := x
    dsimp only at en hz c0 c1 HAPP ⊢
    subst en
    rw [Int.toNat_natCast] at HAPP
    clear hi hst
    generalize rtP h lf pre = rr at *
    have hT := (unhide HT).below hB1
    have HKS : Hid (∀ (W3 : World) (v : Value), Below W.heap.size W W3 → KeepsFrom w3.heap.size W (W3.setCell ⟨w1.heap.size, 0, none⟩ v) ∧ KpM w1.heap.size w2.heap.size (.slice a l.length cap) W (W3.setCell ⟨w1.heap.size, 0, none⟩ v) ∧ ((Boxed (W3.setCell ⟨w1.heap.size, 0, none⟩ v) w1.heap.size 9 v ∧ Boxed (W3.setCell ⟨w1.heap.size, 0, none⟩ v) (w.heap.size + 1) 9 (.string h)) ∧ Boxed (W3.setCell ⟨w1.heap.size, 0, none⟩ v) w2.heap.size 30 (.slice a l.length cap)) ∧ Below w.heap.size w (W3.setCell ⟨w1.heap.size, 0, none⟩ v)) := hide (fun W3 v hb => by
      have bA3 := (BoxedB.blw bA1 hb).other (B' := w1.heap.size) (by omega) v
      have hRlt := bR1.lt
      refine ⟨KeepsFrom.trans ⟨hb.size, fun k o _ hk ho => (hb.block k (Array.getElem?_eq_some_iff.1 hk).1).trans hk⟩ ((KeepsOthers.setCell _ _ _).from _), ⟨((hb.mono (Nat.le_of_lt hRlt)).setCell (p := ⟨w1.heap.size, 0, none⟩) (Nat.le_refl _) v), fun _ => bA3.cell⟩, ⟨⟨(BoxedB.blw bR1 hb).set v, (BoxedB.blw bH1 hb).other (by omega) v⟩, bA3⟩, ?_⟩
      exact (hB1.trans (hb.mono hB1.size)).setCell (p := ⟨w1.heap.size, 0, none⟩) (by dsimp only; omega) v)
    have A1 := (Below.refl W.heap.size W).alloc (Nat.le_refl _) (.cells #[.string ⟨#[]⟩, .string ⟨#[]⟩] 81)
    have X1 := Blk.new W #[.string ⟨#[]⟩, .string ⟨#[]⟩] 81 W.heap.size rfl
    have d0 := (A1.cell (p := ⟨Bx, 0, none⟩) hBl).trans c0
    have d1 := (A1.cell (p := ⟨Bx, 1, none⟩) hBl).trans c1
    have HC0 := hide c0
    have dh := (BoxedB.blw bH1 A1).cell
    have dr := (BoxedB.blw bR1 A1).cell
    have hKne : W.heap.size ≠ Bx := by omega
    have hKnr : W.heap.size ≠ w1.heap.size := by have := bR1.lt; omega
    have HA1 := hide A1
    have HX1 := hide X1
    have HSZ := hide hsz
    have HTW := hide hT
    have HBR := hide bR1
    clear A1 X1 bR1 bH1 bA1 hB1 c0 c1 hT hsz hr
    rcases bitN_01 h n with hb | hb
    · rw [hb] at HBT HAPP
      have HFK := hide (fun wx (hx : Tab wx) => forkRoot_any n rr y wx hn (unhide HSZ) hz hx)
      have HAP : Hid (rtP h lf pn = fkR n rr y) := hide (by rw [unhide HAPP]; unfold sideR; rw [if_pos rfl])
      clear HAPP hb
      gi_wp2_with fail
      generalize hW1 : W.alloc (.cells #[.string ⟨#[]⟩, .string ⟨#[]⟩] 81) = W1 at *
      generalize hKK : W.heap.size = K0 at *
      have k0 := (unhide HX1).cell 0 rfl
      have k1 := (unhide HX1).cell 1 rfl
      have f0 := (unhide HX1).fro 0
      have f1 := (unhide HX1).fro 1
      refine ⟨trivial, ?_⟩
      try refine ⟨hdd _, ?_⟩
      refine (CallsIn.inRound l' (callsIn_wide.2 (unhide HBT _))).mono ?_
      rintro e W9 ⟨rfl, hW9⟩
      subst W9
      clear HBT
      have e1 : (W1.setCell ⟨K0, 0, none⟩ (.string rr)).cell? ⟨Bx, 1, none⟩ = some (.string y) := (World.cell?_setCell_other W1 _ _ _ (fun e => hKne (congrArg Addr.block e))).trans d1
      have X2 := (unhide HX1).set 0 (.string rr) (by simp)
      have q1 := X2.cell 1 rfl
      have g1 := X2.fro 1
      clear X2
      gi_wp2
      refine wpIn_region_any (by kernel_rfl) ?_
      refine wpAnyIn_round (F := Fence.wide) rfl (by kernel_rfl) _ _ _ _ ?_
      change wpAnyIn _ _ _ _ _ _ _ _ _ (World.drew _)
      refine wpAnyIn_take (i := 0) (v := .int .i64 0) rfl rfl (by kernel_rfl) (by kernel_rfl) (by kernel_rfl) (fun _ _ _ h => h) ⟨Or.inl ⟨by rfl, ?_⟩, fun _ => rfl⟩ ?_
      · intro w
        go_simp
        try rfl
      refine wpAnyIn_take (i := 1) (v := .int .i64 0) rfl rfl (by kernel_rfl) (by kernel_rfl) (by kernel_rfl) (fun _ _ _ h => h) ⟨Or.inl ⟨by rfl, ?_⟩, fun _ => rfl⟩ ?_
      · intro w
        go_simp
        try rfl
      refine wpAnyIn_take (i := 2) (v := .int .i64 1) rfl rfl (by kernel_rfl) (by kernel_rfl) (by kernel_rfl) (fun _ _ _ h => h) ⟨Or.inl ⟨by rfl, ?_⟩, fun _ => rfl⟩ ?_
      · intro w
        go_simp
        try rfl
      refine wpAnyIn_take (i := 4) (v := .pointer (some ⟨Bx, 1, none⟩)) rfl rfl (by kernel_rfl) (by kernel_rfl) (by kernel_rfl) (fun _ _ _ h => h) ⟨Or.inl ⟨by rfl, ?_⟩, fun _ => rfl⟩ ?_
      · intro w
        go_simp
        try rfl
      refine wpAnyIn_ready (rs := [3, 5]) (by kernel_rfl) (by simp) ?_
      refine AllReadyIn.cons rfl (fun K hK => ?_) ?_
      · go_simp
        refine hK _ _ ?_
        clear hK K
        refine wpAnyIn_take (i := 6) (v := .pointer (some ⟨K0, 0, none⟩)) rfl rfl (by kernel_rfl) (by kernel_rfl) (by kernel_rfl) (fun _ _ _ h => h) ⟨Or.inl ⟨by rfl, ?_⟩, fun _ => rfl⟩ ?_
        · intro w
          go_simp
          try rfl
        refine wpAnyIn_ready (rs := [5, 7]) (by kernel_rfl) (by simp) ?_
        refine AllReadyIn.cons rfl (fun K hK => ?_) ?_
        · go_simp
          refine hK _ _ ?_
          clear hK K
          refine wpAnyIn_ready (rs := [7]) (by kernel_rfl) (by simp) ?_
          refine AllReadyIn.cons rfl (fun K hK => ?_) AllReadyIn.nil
          go_simp
          refine hK _ _ ?_
          clear hK K
          refine wpAnyIn_take (i := 8) (v := .pointer (some ⟨K0, 1, none⟩)) rfl rfl (by kernel_rfl) (by kernel_rfl) (by kernel_rfl) (fun _ _ _ h => h) ⟨Or.inl ⟨by rfl, ?_⟩, fun _ => rfl⟩ ?_
          · intro w
            go_simp
            try rfl
          refine wpAnyIn_ready (rs := [9]) (by kernel_rfl) (by simp) ?_
          refine AllReadyIn.cons rfl (fun K hK => ?_) AllReadyIn.nil
          go_simp
          refine hK _ _ ?_
          clear hK K
          refine wpAnyIn_done (by kernel_rfl) ?_ _
          have A3 := hide (below_drewN (((unhide HA1).setCell (p := ⟨K0, 0, none⟩) (Nat.le_refl _) (.string rr)).setCell (p := ⟨K0, 1, none⟩) (Nat.le_refl _) (.string y)) 1)
          have X3 := hide (((((unhide HX1).set 0 (.string rr) (by simp)).set 1 (.string y) (by simp))).drewN 1)
          change Exit.then _ _ _ _ (((W1.setCell ⟨K0, 0, none⟩ (.string rr)).setCell ⟨K0, 1, none⟩ (.string y)).drewN 1)
          clear k0 k1 f0 f1 q1 g1 e1 d0 d1 dh dr
          generalize ((W1.setCell ⟨K0, 0, none⟩ (.string rr)).setCell ⟨K0, 1, none⟩ (.string y)).drewN 1 = W2 at *
          have k0 := (unhide X3).cell 0 rfl
          have k1 := (unhide X3).cell 1 rfl
          have d0 := ((unhide A3).cell (p := ⟨Bx, 0, none⟩) (by rw [← hKK] at *; exact hBl)).trans (unhide HC0)
          gi_wp2_with fail
          refine ⟨trivial, ?_⟩
          try refine ⟨hdd _, ?_⟩
          refine (CallsIn.inRound l' (callsIn_wide.2 (unhide HFK W2 ((unhide HTW).below (by rw [hKK]; exact unhide A3))))).mono ?_
          rintro e W4 ⟨rfl, hb4⟩
          subst hKK
          have hb5 := (unhide A3).trans (hb4.mono (unhide A3).size)
          have hE := hide (unhide HKS W4 (.string (fkR n rr y)) hb5)
          have cR := (BoxedB.blw (unhide HBR) hb5).cell
          have fR := (BoxedB.blw (unhide HBR) hb5).frozen
          have hN := fkR_size (a := n) (unhide HSZ) hz
          clear hb4 hb5 A3 X3 HKS HFK
          generalize fkR n rr y = rM at *
          gi_wp2
          obtain ⟨z1, z2, ⟨⟨z3, z4⟩, z5⟩, z6⟩ := unhide hE
          refine ⟨z1, z2, ⟨⟨⟨?_, ?_⟩, z4⟩, z5⟩, z6⟩
          · rw [unhide HAP]; exact hN
          · rw [unhide HAP]; exact z3
        refine AllReadyIn.cons rfl (fun K hK => ?_) AllReadyIn.nil
        go_simp
        refine hK _ _ ?_
        clear hK K
        refine wpAnyIn_ready (rs := [5]) (by kernel_rfl) (by simp) ?_
        refine AllReadyIn.cons rfl (fun K hK => ?_) AllReadyIn.nil
        go_simp
        refine hK _ _ ?_
        clear hK K
        refine wpAnyIn_take (i := 8) (v := .pointer (some ⟨K0, 1, none⟩)) rfl rfl (by kernel_rfl) (by kernel_rfl) (by kernel_rfl) (fun _ _ _ h => h) ⟨Or.inl ⟨by rfl, ?_⟩, fun _ => rfl⟩ ?_
        · intro w
          go_simp
          try rfl
        refine wpAnyIn_ready (rs := [9]) (by kernel_rfl) (by simp) ?_
        refine AllReadyIn.cons rfl (fun K hK => ?_) AllReadyIn.nil
        go_simp
        refine hK _ _ ?_
        clear hK K
        refine wpAnyIn_done (by kernel_rfl) ?_ _
        have A3 := hide (below_drewN (((unhide HA1).setCell (p := ⟨K0, 0, none⟩) (Nat.le_refl _) (.string rr)).setCell (p := ⟨K0, 1, none⟩) (Nat.le_refl _) (.string y)) 1)
        have X3 := hide (((((unhide HX1).set 0 (.string rr) (by simp)).set 1 (.string y) (by simp))).drewN 1)
        change Exit.then _ _ _ _ (((W1.setCell ⟨K0, 0, none⟩ (.string rr)).setCell ⟨K0, 1, none⟩ (.string y)).drewN 1)
        clear k0 k1 f0 f1 q1 g1 e1 d0 d1 dh dr
        generalize ((W1.setCell ⟨K0, 0, none⟩ (.string rr)).setCell ⟨K0, 1, none⟩ (.string y)).drewN 1 = W2 at *
        have k0 := (unhide X3).cell 0 rfl
        have k1 := (unhide X3).cell 1 rfl
        have d0 := ((unhide A3).cell (p := ⟨Bx, 0, none⟩) (by rw [← hKK] at *; exact hBl)).trans (unhide HC0)
        gi_wp2_with fail
        refine ⟨trivial, ?_⟩
        try refine ⟨hdd _, ?_⟩
        refine (CallsIn.inRound l' (callsIn_wide.2 (unhide HFK W2 ((unhide HTW).below (by rw [hKK]; exact unhide A3))))).mono ?_
        rintro e W4 ⟨rfl, hb4⟩
        subst hKK
        have hb5 := (unhide A3).trans (hb4.mono (unhide A3).size)
        have hE := hide (unhide HKS W4 (.string (fkR n rr y)) hb5)
        have cR := (BoxedB.blw (unhide HBR) hb5).cell
        have fR := (BoxedB.blw (unhide HBR) hb5).frozen
        have hN := fkR_size (a := n) (unhide HSZ) hz
        clear hb4 hb5 A3 X3 HKS HFK
        generalize fkR n rr y = rM at *
        gi_wp2
        obtain ⟨z1, z2, ⟨⟨z3, z4⟩, z5⟩, z6⟩ := unhide hE
        refine ⟨z1, z2, ⟨⟨⟨?_, ?_⟩, z4⟩, z5⟩, z6⟩
        · rw [unhide HAP]; exact hN
        · rw [unhide HAP]; exact z3
      refine AllReadyIn.cons rfl (fun K hK => ?_) AllReadyIn.nil
      go_simp
      refine hK _ _ ?_
      clear hK K
      refine wpAnyIn_ready (rs := [3]) (by kernel_rfl) (by simp) ?_
      refine AllReadyIn.cons rfl (fun K hK => ?_) AllReadyIn.nil
      go_simp
      refine hK _ _ ?_
      clear hK K
      refine wpAnyIn_take (i := 6) (v := .pointer (some ⟨K0, 0, none⟩)) rfl rfl (by kernel_rfl) (by kernel_rfl) (by kernel_rfl) (fun _ _ _ h => h) ⟨Or.inl ⟨by rfl, ?_⟩, fun _ => rfl⟩ ?_
      · intro w
        go_simp
        try rfl
      refine wpAnyIn_ready (rs := [7]) (by kernel_rfl) (by simp) ?_
      refine AllReadyIn.cons rfl (fun K hK => ?_) AllReadyIn.nil
      go_simp
      refine hK _ _ ?_
      clear hK K
      refine wpAnyIn_take (i := 8) (v := .pointer (some ⟨K0, 1, none⟩)) rfl rfl (by kernel_rfl) (by kernel_rfl) (by kernel_rfl) (fun _ _ _ h => h) ⟨Or.inl ⟨by rfl, ?_⟩, fun _ => rfl⟩ ?_
      · intro w
        go_simp
        try rfl
      refine wpAnyIn_ready (rs := [9]) (by kernel_rfl) (by simp) ?_
      refine AllReadyIn.cons rfl (fun K hK => ?_) AllReadyIn.nil
      go_simp
      refine hK _ _ ?_
      clear hK K
      refine wpAnyIn_done (by kernel_rfl) ?_ _
      have A3 := hide (below_drewN (((unhide HA1).setCell (p := ⟨K0, 0, none⟩) (Nat.le_refl _) (.string rr)).setCell (p := ⟨K0, 1, none⟩) (Nat.le_refl _) (.string y)) 1)
      have X3 := hide (((((unhide HX1).set 0 (.string rr) (by simp)).set 1 (.string y) (by simp))).drewN 1)
      change Exit.then _ _ _ _ (((W1.setCell ⟨K0, 0, none⟩ (.string rr)).setCell ⟨K0, 1, none⟩ (.string y)).drewN 1)
      clear k0 k1 f0 f1 q1 g1 e1 d0 d1 dh dr
      generalize ((W1.setCell ⟨K0, 0, none⟩ (.string rr)).setCell ⟨K0, 1, none⟩ (.string y)).drewN 1 = W2 at *
      have k0 := (unhide X3).cell 0 rfl
      have k1 := (unhide X3).cell 1 rfl
      have d0 := ((unhide A3).cell (p := ⟨Bx, 0, none⟩) (by rw [← hKK] at *; exact hBl)).trans (unhide HC0)
      gi_wp2_with fail
      refine ⟨trivial, ?_⟩
      try refine ⟨hdd _, ?_⟩
      refine (CallsIn.inRound l' (callsIn_wide.2 (unhide HFK W2 ((unhide HTW).below (by rw [hKK]; exact unhide A3))))).mono ?_
      rintro e W4 ⟨rfl, hb4⟩
      subst hKK
      have hb5 := (unhide A3).trans (hb4.mono (unhide A3).size)
      have hE := hide (unhide HKS W4 (.string (fkR n rr y)) hb5)
      have cR := (BoxedB.blw (unhide HBR) hb5).cell
      have fR := (BoxedB.blw (unhide HBR) hb5).frozen
      have hN := fkR_size (a := n) (unhide HSZ) hz
      clear hb4 hb5 A3 X3 HKS HFK
      generalize fkR n rr y = rM at *
      gi_wp2
      obtain ⟨z1, z2, ⟨⟨z3, z4⟩, z5⟩, z6⟩ := unhide hE
      refine ⟨z1, z2, ⟨⟨⟨?_, ?_⟩, z4⟩, z5⟩, z6⟩
      · rw [unhide HAP]; exact hN
      · rw [unhide HAP]; exact z3
    · rw [hb] at HBT HAPP
      have HFK := hide (fun wx (hx : Tab wx) => forkRoot_any n y rr wx hn hz (unhide HSZ) hx)
      have HAP : Hid (rtP h lf pn = fkR n y rr) := hide (by rw [unhide HAPP]; unfold sideR; rw [if_neg (by decide)])
      clear HAPP hb
      gi_wp2_with fail
      generalize hW1 : W.alloc (.cells #[.string ⟨#[]⟩, .string ⟨#[]⟩] 81) = W1 at *
      generalize hKK : W.heap.size = K0 at *
      have k0 := (unhide HX1).cell 0 rfl
      have k1 := (unhide HX1).cell 1 rfl
      have f0 := (unhide HX1).fro 0
      have f1 := (unhide HX1).fro 1
      refine ⟨trivial, ?_⟩
      try refine ⟨hdd _, ?_⟩
      refine (CallsIn.inRound l' (callsIn_wide.2 (unhide HBT _))).mono ?_
      rintro e W9 ⟨rfl, hW9⟩
      subst W9
      clear HBT
      have e1 : (W1.setCell ⟨K0, 1, none⟩ (.string rr)).cell? ⟨Bx, 1, none⟩ = some (.string y) := (World.cell?_setCell_other W1 _ _ _ (fun e => hKne (congrArg Addr.block e))).trans d1
      have X2 := (unhide HX1).set 1 (.string rr) (by simp)
      have q1 := X2.cell 0 rfl
      have g1 := X2.fro 0
      clear X2
      gi_wp2
      refine wpIn_region_any (by kernel_rfl) ?_
      refine wpAnyIn_round (F := Fence.wide) rfl (by kernel_rfl) _ _ _ _ ?_
      change wpAnyIn _ _ _ _ _ _ _ _ _ (World.drew _)
      refine wpAnyIn_take (i := 0) (v := .int .i64 1) rfl rfl (by kernel_rfl) (by kernel_rfl) (by kernel_rfl) (fun _ _ _ h => h) ⟨Or.inl ⟨by rfl, ?_⟩, fun _ => rfl⟩ ?_
      · intro w
        go_simp
        try rfl
      refine wpAnyIn_take (i := 1) (v := .int .i64 1) rfl rfl (by kernel_rfl) (by kernel_rfl) (by kernel_rfl) (fun _ _ _ h => h) ⟨Or.inl ⟨by rfl, ?_⟩, fun _ => rfl⟩ ?_
      · intro w
        go_simp
        try rfl
      refine wpAnyIn_take (i := 2) (v := .int .i64 0) rfl rfl (by kernel_rfl) (by kernel_rfl) (by kernel_rfl) (fun _ _ _ h => h) ⟨Or.inl ⟨by rfl, ?_⟩, fun _ => rfl⟩ ?_
      · intro w
        go_simp
        try rfl
      refine wpAnyIn_take (i := 4) (v := .pointer (some ⟨Bx, 1, none⟩)) rfl rfl (by kernel_rfl) (by kernel_rfl) (by kernel_rfl) (fun _ _ _ h => h) ⟨Or.inl ⟨by rfl, ?_⟩, fun _ => rfl⟩ ?_
      · intro w
        go_simp
        try rfl
      refine wpAnyIn_ready (rs := [3, 5]) (by kernel_rfl) (by simp) ?_
      refine AllReadyIn.cons rfl (fun K hK => ?_) ?_
      · go_simp
        refine hK _ _ ?_
        clear hK K
        refine wpAnyIn_take (i := 6) (v := .pointer (some ⟨K0, 1, none⟩)) rfl rfl (by kernel_rfl) (by kernel_rfl) (by kernel_rfl) (fun _ _ _ h => h) ⟨Or.inl ⟨by rfl, ?_⟩, fun _ => rfl⟩ ?_
        · intro w
          go_simp
          try rfl
        refine wpAnyIn_ready (rs := [5, 7]) (by kernel_rfl) (by simp) ?_
        refine AllReadyIn.cons rfl (fun K hK => ?_) ?_
        · go_simp
          refine hK _ _ ?_
          clear hK K
          refine wpAnyIn_ready (rs := [7]) (by kernel_rfl) (by simp) ?_
          refine AllReadyIn.cons rfl (fun K hK => ?_) AllReadyIn.nil
          go_simp
          refine hK _ _ ?_
          clear hK K
          refine wpAnyIn_take (i := 8) (v := .pointer (some ⟨K0, 0, none⟩)) rfl rfl (by kernel_rfl) (by kernel_rfl) (by kernel_rfl) (fun _ _ _ h => h) ⟨Or.inl ⟨by rfl, ?_⟩, fun _ => rfl⟩ ?_
          · intro w
            go_simp
            try rfl
          refine wpAnyIn_ready (rs := [9]) (by kernel_rfl) (by simp) ?_
          refine AllReadyIn.cons rfl (fun K hK => ?_) AllReadyIn.nil
          go_simp
          refine hK _ _ ?_
          clear hK K
          refine wpAnyIn_done (by kernel_rfl) ?_ _
          have A3 := hide (below_drewN (((unhide HA1).setCell (p := ⟨K0, 1, none⟩) (Nat.le_refl _) (.string rr)).setCell (p := ⟨K0, 0, none⟩) (Nat.le_refl _) (.string y)) 1)
          have X3 := hide (((((unhide HX1).set 1 (.string rr) (by simp)).set 0 (.string y) (by simp))).drewN 1)
          change Exit.then _ _ _ _ (((W1.setCell ⟨K0, 1, none⟩ (.string rr)).setCell ⟨K0, 0, none⟩ (.string y)).drewN 1)
          clear k0 k1 f0 f1 q1 g1 e1 d0 d1 dh dr
          generalize ((W1.setCell ⟨K0, 1, none⟩ (.string rr)).setCell ⟨K0, 0, none⟩ (.string y)).drewN 1 = W2 at *
          have k0 := (unhide X3).cell 0 rfl
          have k1 := (unhide X3).cell 1 rfl
          have d0 := ((unhide A3).cell (p := ⟨Bx, 0, none⟩) (by rw [← hKK] at *; exact hBl)).trans (unhide HC0)
          gi_wp2_with fail
          refine ⟨trivial, ?_⟩
          try refine ⟨hdd _, ?_⟩
          refine (CallsIn.inRound l' (callsIn_wide.2 (unhide HFK W2 ((unhide HTW).below (by rw [hKK]; exact unhide A3))))).mono ?_
          rintro e W4 ⟨rfl, hb4⟩
          subst hKK
          have hb5 := (unhide A3).trans (hb4.mono (unhide A3).size)
          have hE := hide (unhide HKS W4 (.string (fkR n y rr)) hb5)
          have cR := (BoxedB.blw (unhide HBR) hb5).cell
          have fR := (BoxedB.blw (unhide HBR) hb5).frozen
          have hN := fkR_size (a := n) hz (unhide HSZ)
          clear hb4 hb5 A3 X3 HKS HFK
          generalize fkR n y rr = rM at *
          gi_wp2
          obtain ⟨z1, z2, ⟨⟨z3, z4⟩, z5⟩, z6⟩ := unhide hE
          refine ⟨z1, z2, ⟨⟨⟨?_, ?_⟩, z4⟩, z5⟩, z6⟩
          · rw [unhide HAP]; exact hN
          · rw [unhide HAP]; exact z3
        refine AllReadyIn.cons rfl (fun K hK => ?_) AllReadyIn.nil
        go_simp
        refine hK _ _ ?_
        clear hK K
        refine wpAnyIn_ready (rs := [5]) (by kernel_rfl) (by simp) ?_
        refine AllReadyIn.cons rfl (fun K hK => ?_) AllReadyIn.nil
        go_simp
        refine hK _ _ ?_
        clear hK K
        refine wpAnyIn_take (i := 8) (v := .pointer (some ⟨K0, 0, none⟩)) rfl rfl (by kernel_rfl) (by kernel_rfl) (by kernel_rfl) (fun _ _ _ h => h) ⟨Or.inl ⟨by rfl, ?_⟩, fun _ => rfl⟩ ?_
        · intro w
          go_simp
          try rfl
        refine wpAnyIn_ready (rs := [9]) (by kernel_rfl) (by simp) ?_
        refine AllReadyIn.cons rfl (fun K hK => ?_) AllReadyIn.nil
        go_simp
        refine hK _ _ ?_
        clear hK K
        refine wpAnyIn_done (by kernel_rfl) ?_ _
        have A3 := hide (below_drewN (((unhide HA1).setCell (p := ⟨K0, 1, none⟩) (Nat.le_refl _) (.string rr)).setCell (p := ⟨K0, 0, none⟩) (Nat.le_refl _) (.string y)) 1)
        have X3 := hide (((((unhide HX1).set 1 (.string rr) (by simp)).set 0 (.string y) (by simp))).drewN 1)
        change Exit.then _ _ _ _ (((W1.setCell ⟨K0, 1, none⟩ (.string rr)).setCell ⟨K0, 0, none⟩ (.string y)).drewN 1)
        clear k0 k1 f0 f1 q1 g1 e1 d0 d1 dh dr
        generalize ((W1.setCell ⟨K0, 1, none⟩ (.string rr)).setCell ⟨K0, 0, none⟩ (.string y)).drewN 1 = W2 at *
        have k0 := (unhide X3).cell 0 rfl
        have k1 := (unhide X3).cell 1 rfl
        have d0 := ((unhide A3).cell (p := ⟨Bx, 0, none⟩) (by rw [← hKK] at *; exact hBl)).trans (unhide HC0)
        gi_wp2_with fail
        refine ⟨trivial, ?_⟩
        try refine ⟨hdd _, ?_⟩
        refine (CallsIn.inRound l' (callsIn_wide.2 (unhide HFK W2 ((unhide HTW).below (by rw [hKK]; exact unhide A3))))).mono ?_
        rintro e W4 ⟨rfl, hb4⟩
        subst hKK
        have hb5 := (unhide A3).trans (hb4.mono (unhide A3).size)
        have hE := hide (unhide HKS W4 (.string (fkR n y rr)) hb5)
        have cR := (BoxedB.blw (unhide HBR) hb5).cell
        have fR := (BoxedB.blw (unhide HBR) hb5).frozen
        have hN := fkR_size (a := n) hz (unhide HSZ)
        clear hb4 hb5 A3 X3 HKS HFK
        generalize fkR n y rr = rM at *
        gi_wp2
        obtain ⟨z1, z2, ⟨⟨z3, z4⟩, z5⟩, z6⟩ := unhide hE
        refine ⟨z1, z2, ⟨⟨⟨?_, ?_⟩, z4⟩, z5⟩, z6⟩
        · rw [unhide HAP]; exact hN
        · rw [unhide HAP]; exact z3
      refine AllReadyIn.cons rfl (fun K hK => ?_) AllReadyIn.nil
      go_simp
      refine hK _ _ ?_
      clear hK K
      refine wpAnyIn_ready (rs := [3]) (by kernel_rfl) (by simp) ?_
      refine AllReadyIn.cons rfl (fun K hK => ?_) AllReadyIn.nil
      go_simp
      refine hK _ _ ?_
      clear hK K
      refine wpAnyIn_take (i := 6) (v := .pointer (some ⟨K0, 1, none⟩)) rfl rfl (by kernel_rfl) (by kernel_rfl) (by kernel_rfl) (fun _ _ _ h => h) ⟨Or.inl ⟨by rfl, ?_⟩, fun _ => rfl⟩ ?_
      · intro w
        go_simp
        try rfl
      refine wpAnyIn_ready (rs := [7]) (by kernel_rfl) (by simp) ?_
      refine AllReadyIn.cons rfl (fun K hK => ?_) AllReadyIn.nil
      go_simp
      refine hK _ _ ?_
      clear hK K
      refine wpAnyIn_take (i := 8) (v := .pointer (some ⟨K0, 0, none⟩)) rfl rfl (by kernel_rfl) (by kernel_rfl) (by kernel_rfl) (fun _ _ _ h => h) ⟨Or.inl ⟨by rfl, ?_⟩, fun _ => rfl⟩ ?_
      · intro w
        go_simp
        try rfl
      refine wpAnyIn_ready (rs := [9]) (by kernel_rfl) (by simp) ?_
      refine AllReadyIn.cons rfl (fun K hK => ?_) AllReadyIn.nil
      go_simp
      refine hK _ _ ?_
      clear hK K
      refine wpAnyIn_done (by kernel_rfl) ?_ _
      have A3 := hide (below_drewN (((unhide HA1).setCell (p := ⟨K0, 1, none⟩) (Nat.le_refl _) (.string rr)).setCell (p := ⟨K0, 0, none⟩) (Nat.le_refl _) (.string y)) 1)
      have X3 := hide (((((unhide HX1).set 1 (.string rr) (by simp)).set 0 (.string y) (by simp))).drewN 1)
      change Exit.then _ _ _ _ (((W1.setCell ⟨K0, 1, none⟩ (.string rr)).setCell ⟨K0, 0, none⟩ (.string y)).drewN 1)
      clear k0 k1 f0 f1 q1 g1 e1 d0 d1 dh dr
      generalize ((W1.setCell ⟨K0, 1, none⟩ (.string rr)).setCell ⟨K0, 0, none⟩ (.string y)).drewN 1 = W2 at *
      have k0 := (unhide X3).cell 0 rfl
      have k1 := (unhide X3).cell 1 rfl
      have d0 := ((unhide A3).cell (p := ⟨Bx, 0, none⟩) (by rw [← hKK] at *; exact hBl)).trans (unhide HC0)
      gi_wp2_with fail
      refine ⟨trivial, ?_⟩
      try refine ⟨hdd _, ?_⟩
      refine (CallsIn.inRound l' (callsIn_wide.2 (unhide HFK W2 ((unhide HTW).below (by rw [hKK]; exact unhide A3))))).mono ?_
      rintro e W4 ⟨rfl, hb4⟩
      subst hKK
      have hb5 := (unhide A3).trans (hb4.mono (unhide A3).size)
      have hE := hide (unhide HKS W4 (.string (fkR n y rr)) hb5)
      have cR := (BoxedB.blw (unhide HBR) hb5).cell
      have fR := (BoxedB.blw (unhide HBR) hb5).frozen
      have hN := fkR_size (a := n) hz (unhide HSZ)
      clear hb4 hb5 A3 X3 HKS HFK
      generalize fkR n y rr = rM at *
      gi_wp2
      obtain ⟨z1, z2, ⟨⟨z3, z4⟩, z5⟩, z6⟩ := unhide hE
      refine ⟨z1, z2, ⟨⟨⟨?_, ?_⟩, z4⟩, z5⟩, z6⟩
      · rw [unhide HAP]; exact hN
      · rw [unhide HAP]; exact z3
  case done =>
    rintro D zs W hD rfl ⟨⟨⟨⟨hsz, bR1⟩, bH1⟩, bA1⟩, hB1⟩ hK
    have cR := bR1.cell
    have HB1 := hide hB1
    rw [unhide HRA] at cR
    clear hsz bR1 bH1 bA1 hB1
    gi_wp2
    refine ⟨by simp, .inl ⟨_, _, rfl, run_takeDeferred hK, ?_⟩⟩
    refine ⟨.string (rootBy h (lfR k v) l), ?_, rfl, (unhide HB1).trans (belowK_b (w := w) (Nat.le_refl _) W D _ _ (by have := (unhide B3).size; omega) hK rfl rfl)⟩
    simp [results, Tryd.results33, go_sem, hlf]
  case stop =>
    rintro D c pre W _ _ h _
    exact h.elim
end Go.Proofs.YtnajpeaieeaflaaDoor.Sha
