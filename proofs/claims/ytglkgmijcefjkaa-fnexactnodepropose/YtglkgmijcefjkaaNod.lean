/- Nodes: what can be read, what is one's own; the laws' szNode, toNode, eqNode; a node that came in, opened. (Written by py/nod.py.) -/
import Derived.Test.YtglkgmijcefjkaaOpenS
import Derived.Test.YtglkgmijcefjkaaCopI
import Derived.Test.YtglkgmijcefjkaaMarkI
namespace Go.Proofs.Ytglkgmijcefjkaa
open Go.ChangeShapes Go.WideShapes Go.ChangeAt Go.RowKit Go.Deep
set_option linter.unusedVariables false

/-- The five lists of a node can be read. -/
structure NoR (w : World) (lv sv vv nv mv : Value) (lg : List En) (st vs nx mt : List Int) : Prop where
  lg : Ens w lv lg
  st : Ints w sv st
  vs : Ints w vv vs
  nx : Ints w nv nx
  mt : Ints w mv mt
theorem NoR.below {w w' : World} {lv sv vv nv mv : Value} {lg : List En} {st vs nx mt : List Int} (h : NoR w lv sv vv nv mv lg st vs nx mt) (hb : Below w.heap.size w w') : NoR w' lv sv vv nv mv lg st vs nx mt :=
  ⟨h.lg.below hb, h.st.below hb, h.vs.below hb, h.nx.below hb, h.mt.below hb⟩
theorem Ints.shape {w : World} {v : Value} {l : List Int} (h : Ints w v l) : ∃ a c, v = .slice a l.length c := by
  obtain ⟨a, c, h1, _⟩ := h
  exact ⟨a, c, h1⟩
theorem Ens.shape {w : World} {v : Value} {l : List En} (h : Ens w v l) : ∃ a c, v = .slice a l.length c := by
  obtain ⟨a, c, h1, _⟩ := h
  exact ⟨a, c, h1⟩
/-- Two values lie in blocks of their own. -/
abbrev Apart (a b : Value) : Prop := ∀ k, a.ownBlock = some k → b.ownBlock ≠ some k
/-- The five lists of a node are the call's own, from block B on, and lie apart. -/
structure NoO (B : Nat) (w : World) (lv sv vv nv mv : Value) (lg : List En) (st vs nx mt : List Int) : Prop where
  lg : OwnE B w lv lg
  st : OwnI B w sv st
  vs : OwnI B w vv vs
  nx : OwnI B w nv nx
  mt : OwnI B w mv mt
  ap : [lv, sv, vv, nv, mv].Pairwise Apart
theorem NoO.read {B : Nat} {w : World} {lv sv vv nv mv : Value} {lg : List En} {st vs nx mt : List Int} (h : NoO B w lv sv vv nv mv lg st vs nx mt) : NoR w lv sv vv nv mv lg st vs nx mt :=
  ⟨h.lg.ens, h.st.ints, h.vs.ints, h.nx.ints, h.mt.ints⟩
theorem NoO.kept {T : Nat → Prop} {B : Nat} {w w' : World} {lv sv vv nv mv : Value} {lg : List En} {st vs nx mt : List Int} (h : NoO B w lv sv vv nv mv lg st vs nx mt) (ht : Touch T w w') (hn : ∀ k, T k → k < w.heap.size → k < B) : NoO B w' lv sv vv nv mv lg st vs nx mt :=
  ⟨h.lg.kept ht (fun k hk e => by have := World.ownsRow.lt h.lg k hk; have := hn k e this.2; omega), h.st.kept ht (fun k hk e => by have := h.st.lt k hk; have := hn k e this.2; omega), h.vs.kept ht (fun k hk e => by have := h.vs.lt k hk; have := hn k e this.2; omega), h.nx.kept ht (fun k hk e => by have := h.nx.lt k hk; have := hn k e this.2; omega), h.mt.kept ht (fun k hk e => by have := h.mt.lt k hk; have := hn k e this.2; omega), h.ap⟩
theorem NoO.below {B : Nat} {w w' : World} {lv sv vv nv mv : Value} {lg : List En} {st vs nx mt : List Int} (h : NoO B w lv sv vv nv mv lg st vs nx mt) (hb : Below w.heap.size w w') : NoO B w' lv sv vv nv mv lg st vs nx mt :=
  ⟨h.lg.below hb, h.st.below hb, h.vs.below hb, h.nx.below hb, h.mt.below hb, h.ap⟩
theorem NoO.drewN {B : Nat} {w : World} {lv sv vv nv mv : Value} {lg : List En} {st vs nx mt : List Int} (h : NoO B w lv sv vv nv mv lg st vs nx mt) (n : Nat) : NoO B (w.drewN n) lv sv vv nv mv lg st vs nx mt :=
  ⟨h.lg.drewN n, h.st.drewN n, h.vs.drewN n, h.nx.drewN n, h.mt.drewN n, h.ap⟩
def iszR (L : Int) (n : Nat) : Int := if L - (n : Int) < 0 then -1 else L - (n : Int)
theorem iszR_cases (L : Int) (n : Nat) : iszR L n = -1 ∨ (0 ≤ iszR L n ∧ iszR L n = L - (n : Int)) := by
  unfold iszR; split
  · left; rfl
  · right; omega
set_option maxRecDepth 100000 in
set_option maxHeartbeats 1000000 in
theorem szIntS_any (L : Int) (hL0 : 0 ≤ L) (hL1 : L ≤ 1048576) (a : Option Addr) (n cap : Nat) (w : World) (hn : n ≤ maxLen) :
    Calls Try.prog 18 #[.slice a n cap, .int .i64 L] w fun e w' => e = .returned (.int .i64 (iszR L n)) ∧ w' = w := by
  unfold maxLen at hn
  by_cases q : L - (n : Int) < 0
  · have E : Hid (iszR L n = -1) := hide (by unfold iszR; rw [if_pos q])
    go_enter Try.func18, Try.ntmps18
    go_wp2_with fail
    go_ret
    exact ⟨ret_int (unhide E).symm, rfl⟩
  · have E : Hid (iszR L n = L - (n : Int)) := hide (by unfold iszR; rw [if_neg q])
    go_enter Try.func18, Try.ntmps18
    go_wp2_with fail
    go_ret
    exact ⟨ret_int (unhide E).symm, rfl⟩
/-- What the measure of a node leaves of L, or -1. -/
def noszR (L : Int) (lg : List En) (a b c d : Nat) : Int :=
  if eszR L lg < 0 then -1 else if iszR (eszR L lg) a < 0 then -1 else if iszR (iszR (eszR L lg) a) b < 0 then -1 else if iszR (iszR (iszR (eszR L lg) a) b) c < 0 then -1 else iszR (iszR (iszR (iszR (eszR L lg) a) b) c) d
/-- The lists of a node are not too great. -/
structure NoS (lg : List En) (st vs nx mt : List Int) : Prop where
  l0 : lg.length ≤ 1048576
  dt : ∀ i, (lg.getD i default).d.size ≤ 1048576
  l1 : st.length ≤ 1048576
  l2 : vs.length ≤ 1048576
  l3 : nx.length ≤ 1048576
  l4 : mt.length ≤ 1048576
theorem noszR_cases (L : Int) (hL : L ≤ 1048576) (lg : List En) (st vs nx mt : List Int) : noszR L lg st.length vs.length nx.length mt.length = -1 ∨ (0 ≤ noszR L lg st.length vs.length nx.length mt.length ∧ noszR L lg st.length vs.length nx.length mt.length ≤ L ∧ NoS lg st vs nx mt) := by
  unfold noszR
  rcases eszR_cases L lg with h | ⟨h, hl⟩
  · left; rw [h]; rfl
  have hs := esmall_of L hL lg h
  rw [if_neg (by omega)]
  generalize eszR L lg = r0 at *
  rcases iszR_cases r0 st.length with h1 | ⟨h1, e1⟩
  · left; rw [h1]; rfl
  rw [if_neg (by omega)]
  generalize iszR r0 st.length = r1 at *
  rcases iszR_cases r1 vs.length with h2 | ⟨h2, e2⟩
  · left; rw [h2]; rfl
  rw [if_neg (by omega)]
  generalize iszR r1 vs.length = r2 at *
  rcases iszR_cases r2 nx.length with h3 | ⟨h3, e3⟩
  · left; rw [h3]; rfl
  rw [if_neg (by omega)]
  generalize iszR r2 nx.length = r3 at *
  rcases iszR_cases r3 mt.length with h4 | ⟨h4, e4⟩
  · left; exact h4
  · exact .inr ⟨h4, by omega, ⟨hs.1, hs.2, by omega, by omega, by omega, by omega⟩⟩
end Go.Proofs.Ytglkgmijcefjkaa
