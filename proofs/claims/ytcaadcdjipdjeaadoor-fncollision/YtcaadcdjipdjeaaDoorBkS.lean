/- slices.Backward of texts. -/
import Derived.RangeFuncNested
import Derived.RangeFuncBound
import Derived.RangeFuncCalls
import Derived.RangeFuncLeaves
import Derived.RangeFuncFrom
import Derived.RangeFuncBox
import Derived.RangeFuncWrites
import Derived.Shelf.Abstract
import Derived.Shelf.RegionOpen
import Derived.WalkKit
import Derived.OwnWalkIn
import Derived.TacticsInMore
import Derived.LoopNIn
import Derived.LoopIn
import Derived.Test.YtcaadcdjipdjeaaDoorCol
namespace Go.Proofs.YtcaadcdjipdjeaaDoor.Sha
open Go.ChangeShapes Go.WideShapes Go.ChangeAt Go.RowKit Go.Shelf
set_option linter.unusedVariables false
set_option linter.unusedSimpArgs false
attribute [local go_sem] Oper.semAt_some

/-- A place's number, below n, and the text there. -/
abbrev TA (n : Nat) := { x : Nat × ByteArray // x.1 < n }
def taV {n : Nat} (x : TA n) : Array Value := #[.int .i64 (x.1.1 : Int), .string x.1.2]
/-- What comes in round j from the end on. -/
def tel (l : List ByteArray) (j : Nat) (h : j < l.length) : TA l.length := ⟨(l.length - 1 - j, l.getD (l.length - 1 - j) ByteArray.empty), by dsimp only; omega⟩
def twd (l : List ByteArray) : (k : Nat) → k ≤ l.length → List (TA l.length)
  | 0, _ => []
  | k + 1, h => twd l k (by omega) ++ [tel l k (by omega)]
theorem twd_len (l : List ByteArray) : ∀ (k : Nat) (h : k ≤ l.length), (twd l k h).length = k := by
  intro k
  induction k with
  | zero => intro h; rfl
  | succ k ih => intro h; simp [twd, ih]
set_option maxRecDepth 100000 in
set_option maxHeartbeats 2000000 in
theorem backS_in (n l Bs n₀ : Nat) (a : Option Addr) (c : Nat) (lg : List ByteArray) (hl : lg.length ≤ 1048576) (J Jx : List (TA lg.length) → World → Prop)
    (hY : ∀ pre x W, J pre W → pre.length < lg.length → YieldAt Fence.wide (n - 1) Tryd.prog l (taV x) W fun e W' =>
      (e = .returned (.bool true) ∧ J (pre ++ [x]) W' ∧ Below n₀ W W') ∨ (e = .returned (.bool false) ∧ Jx (pre ++ [x]) W'))
    (W : World) (hBs : W.cell? ⟨Bs, 0, none⟩ = some (.slice a lg.length c)) (hBn : Bs < n₀)
    (hc : ∀ q, q < lg.length → ∃ b, a = some ⟨b, 0, none⟩ ∧ b < n₀ ∧ W.cell? ⟨b, q, none⟩ = some (.string (lg.getD q ByteArray.empty))) (h0 : J [] W) :
    CallsIn Fence.wide n Tryd.prog 46 #[.func (.yield l) #[] #[], .pointer (some ⟨Bs, 0, none⟩)] W fun e W' => (∃ v, e = .returned v) ∧
      ((∃ ys, ys = twd lg lg.length (Nat.le_refl _) ∧ J ys W') ∨ (∃ pre, (∃ k, ∃ h : k ≤ lg.length, pre = twd lg k h) ∧ Jx pre W')) := by
  have w0 : IntKind.i64.wrap ((lg.length : Int) - 1) = (lg.length : Int) - 1 := by
    simp only [IntKind.wrap, IntKind.bits, IntKind.signed]
    simp
    omega
  refine callsIn_of_wp Tryd.func46 rfl trivial ?_ rfl
  simp only [Tryd.ntmps46, List.size_toArray, List.length_cons, List.length_nil, Nat.reduceAdd, Nat.reduceSub, Array.replicate_succ, Array.replicate_zero, List.push_toArray, List.append_toArray, List.nil_append, List.cons_append]
  gi_wp2
  gi_loopw [3] (fun i wr => ∃ (k : Nat) (z : Int) (hk : k ≤ lg.length), z = (lg.length : Int) - 1 - (k : Int) ∧ i = .int .i64 z ∧ J (twd lg k hk) wr ∧ Below n₀ W wr) (fun i _ => (intOf i + 1).toNat)
  case atStart => exact ⟨0, _, Nat.zero_le _, by simp, rfl, h0, Below.refl _ _⟩
  case round =>
    obtain ⟨k, z, hk, hzz, rfl, hJs, hnx⟩ := hrel
    have hcb := (hnx.cell (p := ⟨Bs, 0, none⟩) hBn).trans hBs
    by_cases hlt : k < lg.length
    · obtain ⟨q, hq⟩ : ∃ q, lg.length = k + q + 1 := ⟨lg.length - k - 1, by omega⟩
      obtain rfl : z = (q : Int) := by omega
      have hqn : q < lg.length := by omega
      obtain ⟨b, rfl, hbn, s0⟩ := hc q hqn
      have e0 := (hnx.cell (p := ⟨b, q, none⟩) hbn).trans s0
      obtain ⟨fn, tmps, assign, body, hy, hR⟩ := hY _ ⟨(q, lg.getD q ByteArray.empty), hqn⟩ wr hJs (by rw [twd_len]; exact hlt)
      have HJ2 : Hid (twd lg k hk ++ [⟨(q, lg.getD q ByteArray.empty), hqn⟩] = twd lg (k + 1) hlt) := hide (by
        show _ = twd lg k _ ++ [tel lg k _]
        congr 1; congr 1
        refine Subtype.ext ?_
        show (q, lg.getD q ByteArray.empty) = (lg.length - 1 - k, lg.getD (lg.length - 1 - k) ByteArray.empty)
        rw [show lg.length - 1 - k = q by omega])
      dsimp only [taV] at hy e0
      have m0 : (0 : Int) ≤ (q : Int) := by omega
      have m1 : (q : Int) < (lg.length : Int) := by omega
      have m2 : IntKind.i64.wrap ((q : Int) - 1) = (q : Int) - 1 := by
        simp only [IntKind.wrap, IntKind.bits, IntKind.signed]
        simp
        omega
      have HX := hide (And.intro hq hzz)
      have HLT := hide hlt
      clear hc s0 hq hzz
      generalize lg.getD q ByteArray.empty = f at *
      gi_wp2
      refine ⟨fun h => (by cases h), ?_⟩
      refine hR.mono ?_
      rintro e W3 (⟨rfl, hJ3, hk3⟩ | ⟨rfl, hJx3⟩)
      · have R := hide (And.intro hJ3 (hnx.trans hk3))
        clear hJ3 hk3
        gi_wp2
        go_roundw
        case rel =>
          obtain ⟨hq, hzz⟩ := unhide HX
          exact ⟨k + 1, _, unhide HLT, by omega, rfl, by rw [← unhide HJ2]; exact (unhide R).1, (unhide R).2⟩
        case measure => first | (simp [intOf]; done) | (simp [intOf]; omega)
      · gi_wp2
        refine bodyPost_ret (results_none rfl _ _ _) rfl ?_
        exact ⟨⟨_, rfl⟩, .inr ⟨_, ⟨k + 1, unhide HLT, (unhide HJ2)⟩, hJx3⟩⟩
    · obtain rfl : k = lg.length := by omega
      obtain rfl : z = -1 := by omega
      gi_wp2
      go_end0
      exact ⟨⟨_, rfl⟩, .inl ⟨_, rfl, hJs⟩⟩
theorem backS_stops (n Bs B : Nat) (a : Option Addr) (c : Nat) (lg : List ByteArray) (hl : lg.length ≤ 1048576) (w : World) (hBs : Bs < w.heap.size)
    (hc : w.cell? ⟨Bs, 0, none⟩ = some (.slice a lg.length c)) (hE : OwnS B w (.slice a lg.length c) lg) :
    SeqStopsK Fence.wide n Tryd.prog 46 #[.pointer (some ⟨Bs, 0, none⟩)] taV (Below w.heap.size) (fun ys => ys = twd lg lg.length (Nat.le_refl _)) (fun pre => ∃ k, ∃ h : k ≤ lg.length, pre = twd lg k h) lg.length w := fun l J Jx W hW _ _ hY h0 =>
  backS_in n l Bs w.heap.size a c lg hl J Jx hY W ((hW.cell (p := ⟨Bs, 0, none⟩) hBs).trans hc) hBs (fun q hq => by
    obtain ⟨b, ha, hb, s0⟩ := ownS_at hE q hq
    exact ⟨b, ha, hb, (hW.cell (p := ⟨b, q, none⟩) hb).trans s0⟩) h0
set_option maxHeartbeats 1000000 in
theorem backS_new (n : Nat) (a : Option Addr) (len c : Nat) (w : World) :
    CallsIn Fence.wide n Tryd.prog 24 #[.slice a len c] w fun e w' => e = .returned (.func (.func 46) #[] #[.pointer (some ⟨w.heap.size, 0, none⟩)]) ∧ w' = w.alloc (.cells #[.slice a len c] 23) := by
  refine callsIn_of_wp Tryd.func24 rfl trivial ?_ rfl
  simp only [Tryd.ntmps24, List.size_toArray, List.length_cons, List.length_nil, Nat.reduceAdd, Nat.reduceSub, Array.replicate_succ, Array.replicate_zero, List.push_toArray, List.append_toArray, List.nil_append, List.cons_append]
  gi_wp2
  go_ret
  exact ⟨rfl, rfl⟩
end Go.Proofs.YtcaadcdjipdjeaaDoor.Sha
