/- What a slice that can be read holds, put behind a row of the call's own: elements of any number of cells; the slice may be empty, the row too. The specification's l07Drop. The specification's l07Insert. The specification's l07Insert, whole. The leaves of a map, ranged over as a function: visit, leaves, size. (*mapNode).with. (*mapNode).put; a map's size, its pointer nil or not; hashes that part at no bit are one. (*mapNode).lead, its leaf known ahead. The worst of two codes: worstFault. impl.MapPut. The specification's l07Put. spec.MapDrop. -/
import Derived.Test.YtgmaappilopgbaaDoorStrO
import Derived.Maps.AppendAt
import Derived.Deep.Upon
import Derived.Test.YtgmaappilopgbaaDoorBrMd
import Derived.Test.YtgmaappilopgbaaDoorBrOw
import Derived.Test.YtgmaappilopgbaaDoorBrW
import Derived.Test.YtgmaappilopgbaaDoorBrSz
import Derived.Deep.DeepCutAuto
import Derived.Deep.RegionLaw
import Derived.RangeFuncNested
import Derived.RangeFuncBound
import Derived.RangeFuncCalls
import Derived.RangeFuncLeaves
import Derived.RangeFuncFrom
import Derived.Shelf.Abstract
import Derived.Shelf.RegionOpen
import Derived.WalkKit
import Derived.OwnWalkIn
import Derived.TacticsInMore
import Derived.LoopNIn
import Derived.LoopIn
import Derived.Test.YtgmaappilopgbaaDoorBrBh
import Derived.Test.YtgmaappilopgbaaDoorBrPu
import Derived.Test.YtgmaappilopgbaaDoorBrU
import Derived.Test.YtgmaappilopgbaaDoorBytes
import Derived.Test.YtgmaappilopgbaaDoorQb
namespace Go.Proofs.YtgmaappilopgbaaDoor
open Go.ChangeShapes Go.WideShapes Go.ChangeAt Go.RowKit
set_option linter.unusedVariables false

/-- The value is a slice of m elements, whose cells are these. -/
def Rw (w : World) (x : Value) (m : Nat) (news : List Value) : Prop := ∃ a cap, x = .slice a m cap ∧ (m = 0 ∨ ∃ ad : Addr, a = some ad ∧ ∀ j u, news[j]? = some u → w.cell? (ad.add j) = some u)
theorem run_append_row {P : Program} (w : World) (base : Nat) (t ty e : TypeId) (i : TypeInfo) (z : Value) (size bytes : Nat) (ht : P.underlying t = some (.slice e)) (hi : P.info? e = some i) (hz : i.zero = some z) (hsize : i.size = size) (hby : i.bytes = bytes) (hzs : z.cells.size = size) (hsz : 0 < size)
    (v : Value) (n : Nat) (xs : List Value) (hown : w.ownsRow base e size v n xs) (x : Value) (m : Nat) (news : List Value) (hR : Rw w x m news) (hl : news.length = m * size) (h1 : ∀ u ∈ news, u.oneCell' = true) (h63 : n + m ≤ maxLen) (hb : (n + m) * bytes ≤ 140737488355328) (hbase : base ≤ w.heap.size) :
    ∃ a' c' w', (Builtin.append_ #[t, t] ty #[v, x]).run P w = .ok (.slice a' (n + m) c') w' ∧ w'.ownsRow base e size (.slice a' (n + m) c') (n + m) (xs ++ news) ∧ w.grownBy w' v.ownBlock ∧ ((Value.slice a' (n + m) c').ownBlock = v.ownBlock ∨ (Value.slice a' (n + m) c').ownBlock = some w.heap.size) := by
  have key : ∃ v' w', (Builtin.append_ #[t, t] ty #[v, x]).run P w = .ok v' w' ∧ w'.ownsRow base e size v' (n + m) (xs ++ news) ∧ w.grownBy w' v.ownBlock ∧ (v'.ownBlock = v.ownBlock ∨ v'.ownBlock = some w.heap.size) := by
    obtain ⟨a, cap, rfl, hc⟩ := hR
    cases a with
    | none =>
      have hm0 : m = 0 := by
        rcases hc with h0 | ⟨ad, ha, _⟩
        · exact h0
        · cases ha
      subst hm0
      have hn0 : news = [] := List.eq_nil_of_length_eq_zero (by omega)
      subst hn0
      refine ⟨v, w, ?_, by simpa using hown, World.grownBy.refl _ _, .inl rfl⟩
      rcases hown.2 with ⟨rfl, _⟩ | ⟨g, cp, cur, rfl, _, _, hnc, _⟩
      · exact Go.run_append_nothing w t t ty e i ht hi none 0 0 (Nat.le_refl _) _ (Go.Src.ofNil (w := w) ht cap)
      · exact Go.run_append_nothing w t t ty e i ht hi _ n cp hnc _ (Go.Src.ofNil (w := w) ht cap)
    | some ad =>
      have hnews : ∀ j u, news[j]? = some u → w.cell? (ad.add j) = some u := fun j u hu => by
        rcases hc with h0 | ⟨b, ha, hcell⟩
        · subst h0
          have hn0 : news = [] := List.eq_nil_of_length_eq_zero (by omega)
          rw [hn0] at hu; cases hu
        · cases ha; exact hcell j u hu
      obtain ⟨v', w', hr', h2, h3, h4, h5⟩ := run_append_own_at (P := P) w base t ty e i z size bytes ht hi hz hsize hby hzs hsz v n xs hown ad m cap news hl hnews h1 h63 hb hbase
      exact ⟨v', w', hr', h2, h3, h5⟩
  obtain ⟨v', w', hr', h2, h3, h4⟩ := key
  rcases own_shape h2 with ⟨rfl, h0⟩ | ⟨g, c, rfl, _⟩
  · rw [h0] at h2 ⊢
    exact ⟨none, 0, w', hr', h2, h3, h4⟩
  · exact ⟨_, _, w', hr', h2, h3, h4⟩
theorem step_append_row {P : Program} {w : World} {ops : Array Oper} {o : Oper} {a : Act} {K : Act → World → Prop} {Q : Exit → Act → World → Prop} {E : Prop} (hgd : o.guard = none) (s x : Operand) (t : TypeId)
    (ho : o.op = .call { callee := .builtin .append, args := #[s, x], argTypes := #[t, t] })
    (base : Nat) (e : TypeId) (i : TypeInfo) (z : Value) (size bytes : Nat) (ht : P.underlying t = some (.slice e)) (hi : P.info? e = some i) (hz : i.zero = some z) (hsize : i.size = size) (hby : i.bytes = bytes) (hzs : z.cells.size = size) (hsz : 0 < size)
    (v : Value) (n : Nat) (xs : List Value) (hs : a.eval s = v) (hown : w.ownsRow base e size v n xs) (xv : Value) (m : Nat) (news : List Value) (hx : a.eval x = xv) (hR : Rw w xv m news) (hl : news.length = m * size) (h1 : ∀ u ∈ news, u.oneCell' = true) (h63 : n + m ≤ maxLen) (hb : (n + m) * bytes ≤ 140737488355328) (hbase : base ≤ w.heap.size)
    (h : ∀ a' c' w', w'.ownsRow base e size (.slice a' (n + m) c') (n + m) (xs ++ news) → w.grownBy w' v.ownBlock → ((Value.slice a' (n + m) c').ownBlock = v.ownBlock ∨ (Value.slice a' (n + m) c').ownBlock = some w.heap.size) → K (a.put o.dst (.slice a' (n + m) c')) w') :
    if Region.wanted o (yielded ops a.tmps) = true then Oper.wp P o a w K Q else E := by
  have hw : Region.wanted o (yielded ops a.tmps) = true := by simp [Region.wanted, hgd]
  rw [if_pos hw]
  obtain ⟨a', c', w', hr, h2, h3, h4⟩ := run_append_row (P := P) w base t o.type e i z size bytes ht hi hz hsize hby hzs hsz v n xs hown xv m news hR hl h1 h63 hb hbase
  unfold Oper.wp execOp
  simp only [ho, resolve, invoke, builtin, Sem.run_bind, Sem.run_pure, Result.andThen_ok, List.map_toArray, List.map_cons, List.map_nil, hs, hx, hr]
  exact h a' c' w' h2 h3 h4
theorem wpList_append_row {P : Program} (w : World) {ops : Array Oper} {rest : List Oper} {o : Oper} {a : Act} {Q : Exit → Act → World → Prop} (hgd : o.guard = none) (s x : Operand) (t : TypeId)
    (ho : o.op = .call { callee := .builtin .append, args := #[s, x], argTypes := #[t, t] })
    (base : Nat) (e : TypeId) (i : TypeInfo) (z : Value) (size bytes : Nat) (ht : P.underlying t = some (.slice e)) (hi : P.info? e = some i) (hz : i.zero = some z) (hsize : i.size = size) (hby : i.bytes = bytes) (hzs : z.cells.size = size) (hsz : 0 < size)
    (v : Value) (n : Nat) (xs : List Value) (hs : a.eval s = v) (hown : w.ownsRow base e size v n xs) (xv : Value) (m : Nat) (news : List Value) (hx : a.eval x = xv) (hR : Rw w xv m news) (hl : news.length = m * size) (h1 : ∀ u ∈ news, u.oneCell' = true) (h63 : n + m ≤ maxLen) (hb : (n + m) * bytes ≤ 140737488355328) (hbase : base ≤ w.heap.size)
    (h : ∀ a' c' w', w'.ownsRow base e size (.slice a' (n + m) c') (n + m) (xs ++ news) → w.grownBy w' v.ownBlock → ((Value.slice a' (n + m) c').ownBlock = v.ownBlock ∨ (Value.slice a' (n + m) c').ownBlock = some w.heap.size) → wpList P ops Q rest (a.put o.dst (.slice a' (n + m) c')) w') :
    wpList P ops Q (o :: rest) a w := by
  refine wpList_plain hgd fun K hK => ?_
  obtain ⟨a', c', w', hr, h2, h3, h4⟩ := run_append_row (P := P) w base t o.type e i z size bytes ht hi hz hsize hby hzs hsz v n xs hown xv m news hR hl h1 h63 hb hbase
  unfold Oper.wp execOp
  simp only [ho, resolve, invoke, builtin, Sem.run_bind, Sem.run_pure, Result.andThen_ok, List.map_toArray, List.map_cons, List.map_nil, hs, hx, hr]
  exact hK _ _ (h a' c' w' h2 h3 h4)
theorem Strs.rw {w : World} {v : Value} {l : List ByteArray} (h : Strs w v l) : Rw w v l.length (l.map Value.string) := by
  obtain ⟨a, cap, rfl, hm, hc⟩ := h
  refine ⟨a, cap, rfl, ?_⟩
  rcases hc with h0 | ⟨b, off, rfl, hlt, hc⟩
  · exact .inl h0
  · refine .inr ⟨_, rfl, fun j u hu => ?_⟩
    have hadd : (⟨b, off, none⟩ : Addr).add j = ⟨b, off + j, none⟩ := by unfold Addr.add; split <;> simp_all
    rw [List.getElem?_map] at hu
    by_cases hj : j < l.length
    · rw [hadd, hc j hj]
      rw [List.getElem?_eq_getElem hj] at hu
      rw [List.getD_eq_getElem?_getD, List.getElem?_eq_getElem hj]
      simpa using hu
    · rw [List.getElem?_eq_none (by omega)] at hu; cases hu
end Go.Proofs.YtgmaappilopgbaaDoor
namespace Go.Proofs.YtgmaappilopgbaaDoor.Sha
open Go.ChangeShapes Go.WideShapes Go.ChangeAt Go.RowKit
set_option linter.unusedVariables false
set_option linter.unusedSimpArgs false

/-- What l07Drop answers: a branch that can be read. -/
def DrR (B0 : Nat) (b : Br) (w : World) (e : Ending) (w' : World) : Prop := ∃ sa n cap, e = .returned (.agg #[.string b.key, .string b.val, .int .i64 b.at_, .slice sa n cap]) ∧ Brs (fun x => x < B0 ∨ w.heap.size ≤ x) w' (.slice sa n cap) b.kids ∧ Below w.heap.size w w'
/-- The fork with its kid changed, or the other kid. -/
def repl (kb a : Nat) (hv : ByteArray) (l r tq : Tr) : Option Tr → Tr
  | none => tq
  | some t' => if kb = 0 then .fork a hv t' r else .fork a hv l t'
theorem drop_0 (h : ByteArray) (a : Nat) (hv : ByteArray) (l r : Tr) (hb : bitN h a = 0) : dropT h (.fork a hv l r) = some (repl 0 a hv l r r (dropT h l)) := by
  have e : dropT h (.fork a hv l r) = if bitN h a = 0 then (match dropT h l with | none => some r | some l' => some (.fork a hv l' r)) else (match dropT h r with | none => some l | some r' => some (.fork a hv l r')) := rfl
  rw [e, if_pos hb]
  cases dropT h l <;> rfl
theorem drop_1 (h : ByteArray) (a : Nat) (hv : ByteArray) (l r : Tr) (hb : bitN h a = 1) : dropT h (.fork a hv l r) = some (repl 1 a hv l r l (dropT h r)) := by
  have e : dropT h (.fork a hv l r) = if bitN h a = 0 then (match dropT h l with | none => some r | some l' => some (.fork a hv l' r)) else (match dropT h r with | none => some l | some r' => some (.fork a hv l r')) := rfl
  rw [e, if_neg (by omega)]
  cases dropT h r <;> rfl
theorem grown6 {w w5 w6 : World} {E : Nat} (hb : Below w.heap.size w w5) (hg : w5.grownBy w6 (some E)) (hE : w.heap.size ≤ E) : Below w.heap.size w w6 := hb.grown hg hb.size (fun r hr => by cases hr; exact hE)
theorem grownT {w5 w6 : World} {E : Nat} (hg : w5.grownBy w6 (some E)) : Touch (fun q => q = E) w5 w6 := (Touch.refl (fun q => q = E) w5).grown hg (fun q hq _ => by cases hq; rfl)
/-- The cells of two branches in a row. -/
def row2 (b0 b1 : Br) (v0 v1 : Value) : List Value := [.string b0.key, .string b0.val, .int .i64 b0.at_, v0, .string b1.key, .string b1.val, .int .i64 b1.at_, v1]
theorem brs_two {T : Nat → Prop} {B g c : Nat} {w : World} {b0 b1 : Br} {v0 v1 : Value} (h : w.ownsRow B 28 4 (.slice (some ⟨g, 0, none⟩) 2 c) 2 (row2 b0 b1 v0 v1)) (z0 : b0.key.size ≤ maxLen ∧ b0.val.size ≤ maxLen) (z1 : b1.key.size ≤ maxLen ∧ b1.val.size ≤ maxLen) (k0 : Brs T w v0 b0.kids) (k1 : Brs T w v1 b1.kids) (hT : T g) :
    Brs T w (.slice (some ⟨g, 0, none⟩) 2 c) [b0, b1] := by
  obtain ⟨hl, hc⟩ := id h
  rcases hc with ⟨hx, _⟩ | ⟨g', cap', cur, hv, hb, hg, hn, hm, hz, ht⟩
  · cases hx
  · simp only [Value.slice.injEq, Option.some.injEq, Addr.mk.injEq] at hv
    obtain ⟨⟨rfl, _, _⟩, _, rfl⟩ := hv
    refine .row g 0 c [b0, b1] (fun i => if i = 0 then v0 else v1) (by simp) hn hm (Array.getElem?_eq_some_iff.1 hg).1 hT (fun i hi => ?_) (fun i hi => ?_) (fun i hi => ?_)
    · have hi2 : i < 2 := hi
      rw [Nat.zero_add]
      rcases (show i = 0 ∨ i = 1 by omega) with rfl | rfl
      · exact ⟨(h.cellAt 0 (by omega)).trans rfl, (h.cellAt 1 (by omega)).trans rfl, (h.cellAt 2 (by omega)).trans rfl, (h.cellAt 3 (by omega)).trans rfl⟩
      · exact ⟨(h.cellAt 4 (by omega)).trans rfl, (h.cellAt 5 (by omega)).trans rfl, (h.cellAt 6 (by omega)).trans rfl, (h.cellAt 7 (by omega)).trans rfl⟩
    · have hi2 : i < 2 := hi
      rcases (show i = 0 ∨ i = 1 by omega) with rfl | rfl
      · exact z0
      · exact z1
    · have hi2 : i < 2 := hi
      rcases (show i = 0 ∨ i = 1 by omega) with rfl | rfl
      · exact k0
      · exact k1
theorem drop_some (h : ByteArray) (a : Nat) (hv : ByteArray) (l r : Tr) : ∃ t', dropT h (.fork a hv l r) = some t' := by
  rcases bitN_01 h a with hb | hb
  · exact ⟨_, drop_0 h a hv l r hb⟩
  · exact ⟨_, drop_1 h a hv l r hb⟩
theorem row2_rw {S : Nat → Prop} {w wx : World} {bb off cap : Nat} {b0 b1 : Br} {kvf : Nat → Value} (h : BrAt S w bb off [b0, b1] kvf) (hb : Below w.heap.size w wx) : Rw wx (.slice (some ⟨bb, off, none⟩) 2 cap) 2 (row2 b0 b1 (kvf 0) (kvf 1)) := by
  obtain ⟨s0, s1, s2, s3⟩ := h.cells 0 (by simp)
  obtain ⟨d0, d1, d2, d3⟩ := h.cells 1 (by simp)
  have e : ∀ i, wx.cell? ⟨bb, i, none⟩ = w.cell? ⟨bb, i, none⟩ := fun i => hb.cell (p := ⟨bb, i, none⟩) h.lt
  have ea : ∀ i, (⟨bb, off, none⟩ : Addr).add i = ⟨bb, off + i, none⟩ := fun i => by unfold Addr.add; split <;> simp_all
  refine ⟨_, cap, rfl, .inr ⟨_, rfl, fun j u hj => ?_⟩⟩
  rw [ea, e]
  have hj8 : j < 8 := (List.getElem?_eq_some_iff.1 hj).1
  simp only [Nat.zero_mul, Nat.add_zero, Nat.one_mul] at s0 s1 s2 s3 d0 d1 d2 d3
  rcases (show j = 0 ∨ j = 1 ∨ j = 2 ∨ j = 3 ∨ j = 4 ∨ j = 5 ∨ j = 6 ∨ j = 7 by omega) with rfl | rfl | rfl | rfl | rfl | rfl | rfl | rfl <;> (cases hj; assumption)
theorem row2_one {b0 b1 : Br} {a0 a1 : Option Addr} {n0 n1 c0 c1 : Nat} : ∀ u ∈ row2 b0 b1 (.slice a0 n0 c0) (.slice a1 n1 c1), u.oneCell' = true := by
  intro u hu
  simp only [row2, List.mem_cons, List.not_mem_nil, or_false] at hu
  rcases hu with rfl | rfl | rfl | rfl | rfl | rfl | rfl | rfl <;> rfl
end Go.Proofs.YtgmaappilopgbaaDoor.Sha
namespace Go.Proofs.YtgmaappilopgbaaDoor.Sha
open Go.ChangeShapes Go.WideShapes Go.ChangeAt Go.RowKit
set_option linter.unusedVariables false
set_option linter.unusedSimpArgs false

theorem own_lit4 {w : World} {B X : Nat} {cs : Array Value} (h : w.heap[X]? = some (.cells cs 28 (0, 0))) (hB : B ≤ X) (hn : cs.size = 8) : w.ownsRow B 28 4 (.slice (some ⟨X, 0, none⟩) 2 2) 2 cs.toList :=
  ⟨by simp [hn], .inr ⟨X, 2, cs, rfl, hB, h, Nat.le_refl _, by unfold maxLen; omega, by simp [hn], by rw [show 2 * 4 = cs.size from hn.symm, ← Array.length_toList, List.take_length]⟩⟩
set_option maxRecDepth 100000 in
set_option maxHeartbeats 4000000 in
theorem l07Insert_build (k v h : ByteArray) (hh : h.size = 32) (at_ : Nat) (ha : at_ < 256) (hkv : TrOK (.leaf k v)) (t : Tr) (hok : TrOK t) (hc : t.toBr.kids.length = 0 ∨ (at_ : Int) < t.toBr.at_) (B0 : Nat) (kv : Value) (w : World) (hB0 : B0 ≤ w.heap.size) (hB : Brs (fun x => x < B0) w kv t.toBr.kids) :
    Calls Tryd.prog 72 #[.agg #[.string t.toBr.key, .string t.toBr.val, .int .i64 t.toBr.at_, kv], .string h, .int .i64 at_, .agg #[.string k, .string v, .int .i64 256, .slice none 0 0]] w fun e w' => DrR B0 (forkT at_ h k v t).toBr w e w' := by
  obtain ⟨sa, cap, rfl, hcap, hcm⟩ := hB.shape
  have HZT := hide (toBr_small hok)
  have HZK := hide (toBr_small hkv)
  have HLF := hide (fun wx => l07Leaf_any t.toBr.key t.toBr.val t.toBr.at_ sa t.toBr.kids.length cap wx (by unfold maxLen at hcm ⊢; omega))
  have HBT := hide (fun wx => l07Bit_any h at_ wx hh ha)
  have HKB := hide hB
  have B1 := hide ((((Below.refl w.heap.size w).alloc (Nat.le_refl _) (.cells #[.string t.toBr.key, .string t.toBr.val, .int .i64 t.toBr.at_, .slice sa t.toBr.kids.length cap] 28)).alloc (by simp) (.cells #[.string k, .string v, .int .i64 256, .slice none 0 0] 28)).alloc (by simp; omega) (.cells #[.string ⟨#[]⟩, .string ⟨#[]⟩, .int .i64 0, .slice none 0 0] 28))
  have X1 := hide (((Blk.new w #[.string t.toBr.key, .string t.toBr.val, .int .i64 t.toBr.at_, .slice sa t.toBr.kids.length cap] 28 w.heap.size rfl).alloc (.cells #[.string k, .string v, .int .i64 256, .slice none 0 0] 28)).alloc (.cells #[.string ⟨#[]⟩, .string ⟨#[]⟩, .int .i64 0, .slice none 0 0] 28))
  have L1 := hide ((Blk.new (w.alloc (.cells #[.string t.toBr.key, .string t.toBr.val, .int .i64 t.toBr.at_, .slice sa t.toBr.kids.length cap] 28)) #[.string k, .string v, .int .i64 256, .slice none 0 0] 28 (w.heap.size + 1) (by simp)).alloc (.cells #[.string ⟨#[]⟩, .string ⟨#[]⟩, .int .i64 0, .slice none 0 0] 28))
  have R1 := hide (Blk.new ((w.alloc (.cells #[.string t.toBr.key, .string t.toBr.val, .int .i64 t.toBr.at_, .slice sa t.toBr.kids.length cap] 28)).alloc (.cells #[.string k, .string v, .int .i64 256, .slice none 0 0] 28)) #[.string ⟨#[]⟩, .string ⟨#[]⟩, .int .i64 0, .slice none 0 0] 28 (w.heap.size + 1 + 1) (by simp))
  have HRS := hide (show w.heap.size < w.heap.size + 1 + 1 by omega)
  have hne : ((at_ : Int) == 256) = false := by rw [beq_eq_false_iff_ne]; omega
  clear hB hok hkv
  go_enter Tryd.func72, Tryd.ntmps72
  go_upto_region 3 with fail
  generalize ((w.alloc (.cells #[.string t.toBr.key, .string t.toBr.val, .int .i64 t.toBr.at_, .slice sa t.toBr.kids.length cap] 28)).alloc (.cells #[.string k, .string v, .int .i64 256, .slice none 0 0] 28)).alloc (.cells #[.string ⟨#[]⟩, .string ⟨#[]⟩, .int .i64 0, .slice none 0 0] 28) = w1 at *
  generalize w.heap.size + 1 + 1 = R at *
  generalize w.heap.size + 1 = L at *
  have x0 := (unhide X1).cell 0 rfl
  have x1 := (unhide X1).cell 1 rfl
  have x2 := (unhide X1).cell 2 rfl
  have x3 := (unhide X1).cell 3 rfl
  go_cut [25] (fun s wx => s = .bool true ∧ Below w1.heap.size w1 wx)
  case first =>
    cases hlf : decide (t.toBr.kids.length = 0)
    · have hlt : (at_ : Int) < t.toBr.at_ := by
        rcases hc with h0 | h0
        · rw [decide_eq_true h0] at hlf; cases hlf
        · exact h0
      rw [hlf] at HLF
      clear hc hlf
      go_wp2_with fail
      refine (unhide HLF w1).mono ?_
      rintro e w2 ⟨rfl, hb2⟩
      have HB2 := hide hb2
      have y2 := ((unhide X1).below hb2).cell 2 rfl
      clear hb2
      go_wp2_with fail
      go_meet
      exact ⟨by first | rfl | simp [hlt], unhide HB2⟩
    · rw [hlf] at HLF
      clear hc hlf
      go_wp2_with fail
      refine (unhide HLF w1).mono ?_
      rintro e w2 ⟨rfl, hb2⟩
      have HB2 := hide hb2
      clear hb2
      go_wp2_with fail
      go_meet
      exact ⟨rfl, unhide HB2⟩
  case rest =>
    obtain ⟨rfl, hbc⟩ := hcut
    obtain ⟨w2, hw2⟩ : ∃ w2, w2 = wc := ⟨_, rfl⟩
    subst hw2
    have B2 := hide ((unhide B1).trans (hbc.mono (unhide B1).size))
    have R2 := hide ((unhide R1).below hbc)
    have X2 := (unhide X1).below hbc
    have L2 := (unhide L1).below hbc
    clear x0 x1 x2 x3 hbc B1 X1 R1 L1 hc
    have x0 := X2.cell 0 rfl
    have x1 := X2.cell 1 rfl
    have x2 := X2.cell 2 rfl
    have x3 := X2.cell 3 rfl
    have l0 := L2.cell 0 rfl
    have l1 := L2.cell 1 rfl
    have l2 := L2.cell 2 rfl
    have l3 := L2.cell 3 rfl
    clear X2 L2
    rcases bitN_01 h at_ with hb | hb
    · have HF : Hid (forkT at_ h k v t = .fork at_ h (.leaf k v) t) := hide (by unfold forkT; rw [if_pos hb])
      rw [hb] at HBT
      have HGR2 : Hid (∀ sa n cap w', Brs (fun x => x < B0 ∨ w.heap.size ≤ x) w' (.slice sa n cap) [Br.mk k v 256 [], t.toBr] → Below w.heap.size w w' → DrR B0 (forkT at_ h k v t).toBr w (.returned (.agg #[.string ⟨#[]⟩, .string ⟨#[]⟩, .int .i64 at_, .slice sa n cap])) w') := hide (fun sa n cap w' h1 hb => by rw [unhide HF]; exact ⟨sa, n, cap, rfl, h1, hb⟩)
      have BA := (Below.refl w2.heap.size w2).alloc (Nat.le_refl _) (.cells #[.string k, .string v, .int .i64 256, .slice none 0 0, .string t.toBr.key, .string t.toBr.val, .int .i64 t.toBr.at_, .slice sa t.toBr.kids.length cap] 28)
      have R3 := (unhide R2).below BA
      have B3 := hide ((unhide B2).trans (BA.mono (unhide B2).size))
      have O3 : Hid ((w2.alloc (.cells #[.string k, .string v, .int .i64 256, .slice none 0 0, .string t.toBr.key, .string t.toBr.val, .int .i64 t.toBr.at_, .slice sa t.toBr.kids.length cap] 28)).ownsRow w2.heap.size 28 4 (.slice (some ⟨w2.heap.size, 0, none⟩) 2 2) 2 #[.string k, .string v, .int .i64 256, .slice none 0 0, .string t.toBr.key, .string t.toBr.val, .int .i64 t.toBr.at_, .slice sa t.toBr.kids.length cap].toList) := hide (own_lit4 (heap_alloc_new w2 _) (Nat.le_refl _) rfl)
      have r0 := R3.cell 0 rfl
      have r1 := R3.cell 1 rfl
      have r2 := R3.cell 2 rfl
      have r3 := R3.cell 3 rfl
      have f0 := R3.fro 0
      have f1 := R3.fro 1
      have f2 := R3.fro 2
      have f3 := R3.fro 3
      have hZ := set4_blk R3 (.string ⟨#[]⟩) (.string ⟨#[]⟩) (.int .i64 at_) (.slice (some ⟨w2.heap.size, 0, none⟩) 2 2)
      have z0 := hZ.cell 0 rfl
      have z1 := hZ.cell 1 rfl
      have z2 := hZ.cell 2 rfl
      have z3 := hZ.cell 3 rfl
      have HT4 := hide (set4_touch (w2.alloc (.cells #[.string k, .string v, .int .i64 256, .slice none 0 0, .string t.toBr.key, .string t.toBr.val, .int .i64 t.toBr.at_, .slice sa t.toBr.kids.length cap] 28)) R (.string ⟨#[]⟩) (.string ⟨#[]⟩) (.int .i64 at_) (.slice (some ⟨w2.heap.size, 0, none⟩) 2 2))
      have HBF := hide ((unhide B3).trans ((unhide HT4).below (unhide B3).size (fun q hq e => by have := unhide HRS; omega)))
      have hR2 := (unhide R2).1
      have HRL := hide (And.intro (unhide B2).size hR2)
      unfold set4 at z0 z1 z2 z3
      clear hZ R3 BA hR2
      go_wp2_with fail
      refine (unhide HBT w2).mono ?_
      rintro e w9 ⟨rfl, hw9⟩
      subst w9
      go_wp2_with fail
      refine bodyPost_ret (v := .agg #[.string ⟨#[]⟩, .string ⟨#[]⟩, .int .i64 at_, .slice (some ⟨w2.heap.size, 0, none⟩) 2 2]) (by simp [results, Tryd.results72, go_sem, z0, z1, z2, z3]) rfl ?_
      have O9 := own_kept (unhide O3) (unhide HT4) (fun q hq e => by
        have e1 : w2.heap.size = q := by simpa [Value.ownBlock] using hq
        have e2 : q = R := e
        have := (unhide HRL).2
        omega)
      have KT := ((unhide HKB).mono (T := fun x => x < B0 ∨ w.heap.size ≤ x) (fun x hx => .inl hx)).blw (unhide HBF)
      have KN := Brs.nil (w := set4 (w2.alloc (.cells #[.string k, .string v, .int .i64 256, .slice none 0 0, .string t.toBr.key, .string t.toBr.val, .int .i64 t.toBr.at_, .slice sa t.toBr.kids.length cap] 28)) R (.string ⟨#[]⟩) (.string ⟨#[]⟩) (.int .i64 at_) (.slice (some ⟨w2.heap.size, 0, none⟩) 2 2)) (S := fun x => x < B0 ∨ w.heap.size ≤ x) none 0 (by unfold maxLen; omega)
      exact unhide HGR2 (some ⟨w2.heap.size, 0, none⟩) 2 2 _ (brs_two (b0 := Br.mk k v 256 []) (b1 := t.toBr) (v0 := .slice none 0 0) (v1 := .slice sa t.toBr.kids.length cap) O9 (unhide HZK) (unhide HZT) KN KT (.inr (unhide HRL).1)) (unhide HBF)
    · have HF : Hid (forkT at_ h k v t = .fork at_ h t (.leaf k v)) := hide (by unfold forkT; rw [if_neg (by omega)])
      rw [hb] at HBT
      have HGR2 : Hid (∀ sa n cap w', Brs (fun x => x < B0 ∨ w.heap.size ≤ x) w' (.slice sa n cap) [t.toBr, Br.mk k v 256 []] → Below w.heap.size w w' → DrR B0 (forkT at_ h k v t).toBr w (.returned (.agg #[.string ⟨#[]⟩, .string ⟨#[]⟩, .int .i64 at_, .slice sa n cap])) w') := hide (fun sa n cap w' h1 hb => by rw [unhide HF]; exact ⟨sa, n, cap, rfl, h1, hb⟩)
      have BA := (Below.refl w2.heap.size w2).alloc (Nat.le_refl _) (.cells #[.string t.toBr.key, .string t.toBr.val, .int .i64 t.toBr.at_, .slice sa t.toBr.kids.length cap, .string k, .string v, .int .i64 256, .slice none 0 0] 28)
      have R3 := (unhide R2).below BA
      have B3 := hide ((unhide B2).trans (BA.mono (unhide B2).size))
      have O3 : Hid ((w2.alloc (.cells #[.string t.toBr.key, .string t.toBr.val, .int .i64 t.toBr.at_, .slice sa t.toBr.kids.length cap, .string k, .string v, .int .i64 256, .slice none 0 0] 28)).ownsRow w2.heap.size 28 4 (.slice (some ⟨w2.heap.size, 0, none⟩) 2 2) 2 #[.string t.toBr.key, .string t.toBr.val, .int .i64 t.toBr.at_, .slice sa t.toBr.kids.length cap, .string k, .string v, .int .i64 256, .slice none 0 0].toList) := hide (own_lit4 (heap_alloc_new w2 _) (Nat.le_refl _) rfl)
      have r0 := R3.cell 0 rfl
      have r1 := R3.cell 1 rfl
      have r2 := R3.cell 2 rfl
      have r3 := R3.cell 3 rfl
      have f0 := R3.fro 0
      have f1 := R3.fro 1
      have f2 := R3.fro 2
      have f3 := R3.fro 3
      have hZ := set4_blk R3 (.string ⟨#[]⟩) (.string ⟨#[]⟩) (.int .i64 at_) (.slice (some ⟨w2.heap.size, 0, none⟩) 2 2)
      have z0 := hZ.cell 0 rfl
      have z1 := hZ.cell 1 rfl
      have z2 := hZ.cell 2 rfl
      have z3 := hZ.cell 3 rfl
      have HT4 := hide (set4_touch (w2.alloc (.cells #[.string t.toBr.key, .string t.toBr.val, .int .i64 t.toBr.at_, .slice sa t.toBr.kids.length cap, .string k, .string v, .int .i64 256, .slice none 0 0] 28)) R (.string ⟨#[]⟩) (.string ⟨#[]⟩) (.int .i64 at_) (.slice (some ⟨w2.heap.size, 0, none⟩) 2 2))
      have HBF := hide ((unhide B3).trans ((unhide HT4).below (unhide B3).size (fun q hq e => by have := unhide HRS; omega)))
      have hR2 := (unhide R2).1
      have HRL := hide (And.intro (unhide B2).size hR2)
      unfold set4 at z0 z1 z2 z3
      clear hZ R3 BA hR2
      go_wp2_with fail
      refine (unhide HBT w2).mono ?_
      rintro e w9 ⟨rfl, hw9⟩
      subst w9
      go_wp2_with fail
      refine bodyPost_ret (v := .agg #[.string ⟨#[]⟩, .string ⟨#[]⟩, .int .i64 at_, .slice (some ⟨w2.heap.size, 0, none⟩) 2 2]) (by simp [results, Tryd.results72, go_sem, z0, z1, z2, z3]) rfl ?_
      have O9 := own_kept (unhide O3) (unhide HT4) (fun q hq e => by
        have e1 : w2.heap.size = q := by simpa [Value.ownBlock] using hq
        have e2 : q = R := e
        have := (unhide HRL).2
        omega)
      have KT := ((unhide HKB).mono (T := fun x => x < B0 ∨ w.heap.size ≤ x) (fun x hx => .inl hx)).blw (unhide HBF)
      have KN := Brs.nil (w := set4 (w2.alloc (.cells #[.string t.toBr.key, .string t.toBr.val, .int .i64 t.toBr.at_, .slice sa t.toBr.kids.length cap, .string k, .string v, .int .i64 256, .slice none 0 0] 28)) R (.string ⟨#[]⟩) (.string ⟨#[]⟩) (.int .i64 at_) (.slice (some ⟨w2.heap.size, 0, none⟩) 2 2)) (S := fun x => x < B0 ∨ w.heap.size ≤ x) none 0 (by unfold maxLen; omega)
      exact unhide HGR2 (some ⟨w2.heap.size, 0, none⟩) 2 2 _ (brs_two (b0 := t.toBr) (b1 := Br.mk k v 256 []) (v0 := .slice sa t.toBr.kids.length cap) (v1 := .slice none 0 0) O9 (unhide HZT) (unhide HZK) KT KN (.inr (unhide HRL).1)) (unhide HBF)
end Go.Proofs.YtgmaappilopgbaaDoor.Sha
namespace Go.Proofs.YtgmaappilopgbaaDoor.Sha
open Go.ChangeShapes Go.WideShapes Go.ChangeAt Go.RowKit
set_option linter.unusedVariables false
set_option linter.unusedSimpArgs false

set_option maxRecDepth 100000 in
set_option maxHeartbeats 4000000 in
theorem l07Insert_leaf (k v h k' v' : ByteArray) (B0 : Nat) (kv : Value) (w : World) (hB : Brs (fun x => x < B0) w kv []) :
    Calls Tryd.prog 72 #[.agg #[.string k', .string v', .int .i64 256, kv], .string h, .int .i64 256, .agg #[.string k, .string v, .int .i64 256, .slice none 0 0]] w fun e w' => DrR B0 (Tr.leaf k v).toBr w e w' := by
  obtain ⟨sa, cap, rfl, hcap, hcm⟩ := hB.shape
  have HLF := hide (fun wx => l07Leaf_any k' v' 256 sa 0 cap wx (by unfold maxLen; omega))
  rw [show decide ((0 : Nat) = 0) = true from rfl] at HLF
  dsimp only [List.length_nil] at hB ⊢
  have HGR : Hid (∀ w', Below w.heap.size w w' → DrR B0 (Tr.leaf k v).toBr w (.returned (.agg #[.string k, .string v, .int .i64 256, .slice none 0 0])) w') := hide (fun w' hb => ⟨none, 0, 0, rfl, .nil _ _ (by unfold maxLen; omega), hb⟩)
  have B1 := hide ((((Below.refl w.heap.size w).alloc (Nat.le_refl _) (.cells #[.string k', .string v', .int .i64 256, .slice sa 0 cap] 28)).alloc (by simp) (.cells #[.string k, .string v, .int .i64 256, .slice none 0 0] 28)).alloc (by simp; omega) (.cells #[.string ⟨#[]⟩, .string ⟨#[]⟩, .int .i64 0, .slice none 0 0] 28))
  have L1 := hide ((Blk.new (w.alloc (.cells #[.string k', .string v', .int .i64 256, .slice sa 0 cap] 28)) #[.string k, .string v, .int .i64 256, .slice none 0 0] 28 (w.heap.size + 1) (by simp)).alloc (.cells #[.string ⟨#[]⟩, .string ⟨#[]⟩, .int .i64 0, .slice none 0 0] 28))
  have R1 := hide (Blk.new ((w.alloc (.cells #[.string k', .string v', .int .i64 256, .slice sa 0 cap] 28)).alloc (.cells #[.string k, .string v, .int .i64 256, .slice none 0 0] 28)) #[.string ⟨#[]⟩, .string ⟨#[]⟩, .int .i64 0, .slice none 0 0] 28 (w.heap.size + 1 + 1) (by simp))
  have HRS := hide (show w.heap.size < w.heap.size + 1 + 1 by omega)
  clear hB
  go_enter Tryd.func72, Tryd.ntmps72
  go_wp2_with fail
  generalize ((w.alloc (.cells #[.string k', .string v', .int .i64 256, .slice sa 0 cap] 28)).alloc (.cells #[.string k, .string v, .int .i64 256, .slice none 0 0] 28)).alloc (.cells #[.string ⟨#[]⟩, .string ⟨#[]⟩, .int .i64 0, .slice none 0 0] 28) = w1 at *
  generalize w.heap.size + 1 + 1 = R at *
  generalize w.heap.size + 1 = L at *
  refine (unhide HLF w1).mono ?_
  rintro e w2 ⟨rfl, hb2⟩
  have B2 := hide ((unhide B1).trans (hb2.mono (unhide B1).size))
  have R2 := hide ((unhide R1).below hb2)
  have L2 := (unhide L1).below hb2
  have l0 := L2.cell 0 rfl
  have l1 := L2.cell 1 rfl
  have l2 := L2.cell 2 rfl
  have l3 := L2.cell 3 rfl
  clear hb2 B1 R1 L1 L2
  have r0 := (unhide R2).cell 0 rfl
  have r1 := (unhide R2).cell 1 rfl
  have r2 := (unhide R2).cell 2 rfl
  have r3 := (unhide R2).cell 3 rfl
  have f0 := (unhide R2).fro 0
  have f1 := (unhide R2).fro 1
  have f2 := (unhide R2).fro 2
  have f3 := (unhide R2).fro 3
  have hZ := set4_blk (unhide R2) (.string k) (.string v) (.int .i64 256) (.slice none 0 0)
  have z0 := hZ.cell 0 rfl
  have z1 := hZ.cell 1 rfl
  have z2 := hZ.cell 2 rfl
  have z3 := hZ.cell 3 rfl
  have HT4 := hide (set4_touch w2 R (.string k) (.string v) (.int .i64 256) (.slice none 0 0))
  have HBF := hide ((unhide B2).trans ((unhide HT4).below (unhide B2).size (fun q hq e => by have := (unhide HRS); omega)))
  unfold set4 at z0 z1 z2 z3
  clear hZ
  go_wp2_with fail
  refine bodyPost_ret (v := .agg #[.string k, .string v, .int .i64 256, .slice none 0 0]) (by simp [results, Tryd.results72, go_sem, z0, z1, z2, z3]) rfl ?_
  exact unhide HGR _ (unhide HBF)
/-- The fork with its kid changed. -/
def replT (kb a : Nat) (hv : ByteArray) (l r t' : Tr) : Tr := if kb = 0 then .fork a hv t' r else .fork a hv l t'
set_option maxRecDepth 100000 in
set_option maxHeartbeats 8000000 in
theorem l07Insert_any (k v h : ByteArray) (hh : h.size = 32) (at_ : Nat) (hat0 : at_ ≤ 256) (hkv : TrOK (.leaf k v)) : ∀ (t : Tr), TrOK t → ∀ (m : Nat), Rise m t → Sep t → at_ = fd (kh (leadL h t).1) h → ∀ (B0 : Nat) (kv : Value) (w : World), B0 ≤ w.heap.size → Brs (fun x => x < B0) w kv t.toBr.kids →
    Calls Tryd.prog 72 #[.agg #[.string t.toBr.key, .string t.toBr.val, .int .i64 t.toBr.at_, kv], .string h, .int .i64 at_, .agg #[.string k, .string v, .int .i64 256, .slice none 0 0]] w fun e w' => DrR B0 (putT h at_ k v t).toBr w e w' := by
  intro t
  induction t with
  | leaf k' v' =>
    intro hok m hr hs hfd B0 kv w hB0 hB
    by_cases h256 : at_ = 256
    · subst h256
      have := l07Insert_leaf k v h k' v' B0 kv w hB
      unfold putT
      rw [if_pos rfl]
      exact this
    · have := l07Insert_build k v h hh at_ (by omega) hkv (.leaf k' v') hok (.inl rfl) B0 kv w hB0 hB
      unfold putT
      rw [if_neg h256]
      exact this
  | fork a hv l r ihl ihr =>
    intro hok m hr hs hfd B0 kv w hB0 hB
    have hne : at_ ≠ a := fun e => by
      have h1 := ((fd_iff (kh (leadL h (.fork a hv l r)).1) h at_ (by have := hr.2.1; omega)).1 hfd.symm).2
      rw [e] at h1
      exact h1 (lead_bit h hr hs)
    by_cases hlt : a < at_
    · obtain ⟨ha, ho9, okl, okr⟩ := hok
      obtain ⟨r0, r1, r2, r3⟩ := hr
      obtain ⟨q1, q2, q3, sl, sr⟩ := hs
      obtain ⟨sa, cap, rfl, hcap, hcm⟩ := hB.shape
      have hkm := hcm
      obtain ⟨kb, tn, hkb, hb2, HDT, okn, hgn, IH⟩ : ∃ (kb : Nat) (tn : Tr), bitN h a = kb ∧ kb < 2 ∧ Hid (putT h at_ k v (.fork a hv l r) = replT kb a hv l r (putT h at_ k v tn)) ∧ TrOK tn ∧ ([l.toBr, r.toBr] : List Br).getD kb default = tn.toBr ∧
          Hid (∀ (B0 : Nat) (kv : Value) (w : World), B0 ≤ w.heap.size → Brs (fun x => x < B0) w kv tn.toBr.kids → Calls Tryd.prog 72 #[.agg #[.string tn.toBr.key, .string tn.toBr.val, .int .i64 tn.toBr.at_, kv], .string h, .int .i64 at_, .agg #[.string k, .string v, .int .i64 256, .slice none 0 0]] w fun e w' => DrR B0 (putT h at_ k v tn).toBr w e w') := by
        rcases bitN_01 h a with hb | hb
        · exact ⟨0, l, hb, by omega, hide (by conv => lhs; unfold putT; rw [if_pos hlt, if_pos hb]
                                              rfl), okl, rfl, hide (ihl okl _ r2 sl (by rw [hfd]; conv => lhs; unfold leadL; rw [if_pos hb]))⟩
        · exact ⟨1, r, hb, by omega, hide (by conv => lhs; unfold putT; rw [if_pos hlt, if_neg (by omega)]
                                              rfl), okr, rfl, hide (ihr okr _ r3 sr (by rw [hfd]; conv => lhs; unfold leadL; rw [if_neg (by omega)]))⟩
      clear ihl ihr hfd hne q1 q2 q3 sl sr r0 r2 r3 ho9
      rw [unhide HDT]
      have HOT : Hid (TrOK (putT h at_ k v tn)) := hide (putT_ok h at_ k v hat0 hh hkv.1 hkv.2 tn okn)
      generalize putT h at_ k v tn = t' at *
      have HGR : Hid (∀ sa n cap w', Brs (fun x => x < B0 ∨ w.heap.size ≤ x) w' (.slice sa n cap) (replT kb a hv l r t').toBr.kids → Below w.heap.size w w' → DrR B0 (replT kb a hv l r t').toBr w (.returned (.agg #[.string (replT kb a hv l r t').toBr.key, .string (replT kb a hv l r t').toBr.val, .int .i64 (replT kb a hv l r t').toBr.at_, .slice sa n cap])) w') := hide (fun sa n cap w' h1 hb => ⟨sa, n, cap, rfl, h1, hb⟩)
      dsimp only [Tr.toBr, Br.key, Br.val, Br.at_, Br.kids] at hB hcap ⊢
      rw [show ([l.toBr, r.toBr] : List Br).length = 2 from rfl] at hB hcap ⊢
      obtain ⟨bb, off, kvf, rfl, _, hat⟩ := hB.at (by simp)
      have hbb := hat.lt
      obtain ⟨d0, d1, d2, d3⟩ := hat.cells kb (by simpa using hb2)
      have KN := hide (hat.kids kb (by simpa using hb2))
      rw [hgn] at d0 d1 d2 KN
      obtain ⟨kan, kcn, hkvn, _, hknm⟩ := (unhide KN).shape
      rw [hkvn] at KN d3
      have HLF := hide (fun wx => l07Leaf_any ⟨#[]⟩ ⟨#[]⟩ a (some ⟨bb, off, none⟩) 2 cap wx (by unfold maxLen at hkm ⊢; omega))
      rw [show decide ((2 : Nat) = 0) = false from rfl] at HLF
      have HBT := hide (fun wx => l07Bit_any h a wx hh r1)
      rw [hkb] at HBT
      have B1 := hide ((((Below.refl w.heap.size w).alloc (Nat.le_refl _) (.cells #[.string ⟨#[]⟩, .string ⟨#[]⟩, .int .i64 a, .slice (some ⟨bb, off, none⟩) 2 cap] 28)).alloc (by simp) (.cells #[.string k, .string v, .int .i64 256, .slice none 0 0] 28)).alloc (by simp; omega) (.cells #[.string ⟨#[]⟩, .string ⟨#[]⟩, .int .i64 0, .slice none 0 0] 28))
      have X1 := hide (((Blk.new w #[.string ⟨#[]⟩, .string ⟨#[]⟩, .int .i64 a, .slice (some ⟨bb, off, none⟩) 2 cap] 28 w.heap.size rfl).alloc (.cells #[.string k, .string v, .int .i64 256, .slice none 0 0] 28)).alloc (.cells #[.string ⟨#[]⟩, .string ⟨#[]⟩, .int .i64 0, .slice none 0 0] 28))
      have L1 := hide ((Blk.new (w.alloc (.cells #[.string ⟨#[]⟩, .string ⟨#[]⟩, .int .i64 a, .slice (some ⟨bb, off, none⟩) 2 cap] 28)) #[.string k, .string v, .int .i64 256, .slice none 0 0] 28 (w.heap.size + 1) (by simp)).alloc (.cells #[.string ⟨#[]⟩, .string ⟨#[]⟩, .int .i64 0, .slice none 0 0] 28))
      have R1 := hide (Blk.new ((w.alloc (.cells #[.string ⟨#[]⟩, .string ⟨#[]⟩, .int .i64 a, .slice (some ⟨bb, off, none⟩) 2 cap] 28)).alloc (.cells #[.string k, .string v, .int .i64 256, .slice none 0 0] 28)) #[.string ⟨#[]⟩, .string ⟨#[]⟩, .int .i64 0, .slice none 0 0] 28 (w.heap.size + 1 + 1) (by simp))
      have HRS := hide (show w.heap.size < w.heap.size + 1 + 1 ∧ w.heap.size < w.heap.size + 1 by omega)
      have HAT := hide hat
      have hgt : ¬ (at_ : Int) < (a : Int) := by omega
      clear hB hat hkvn hkb hgn HDT
      go_enter Tryd.func72, Tryd.ntmps72
      go_upto_region 1 with fail
      generalize ((w.alloc (.cells #[.string ⟨#[]⟩, .string ⟨#[]⟩, .int .i64 a, .slice (some ⟨bb, off, none⟩) 2 cap] 28)).alloc (.cells #[.string k, .string v, .int .i64 256, .slice none 0 0] 28)).alloc (.cells #[.string ⟨#[]⟩, .string ⟨#[]⟩, .int .i64 0, .slice none 0 0] 28) = w1 at *
      generalize w.heap.size + 1 + 1 = R at *
      generalize w.heap.size + 1 = L at *
      have x0 := (unhide X1).cell 0 rfl
      have x1 := (unhide X1).cell 1 rfl
      have x2 := (unhide X1).cell 2 rfl
      have x3 := (unhide X1).cell 3 rfl
      go_cut [16] (fun s wx => s = .bool false ∧ Below w1.heap.size w1 wx)
      case first =>
        by_cases h256 : at_ = 256
        · subst h256
          go_wp2_with fail
          refine (unhide HLF w1).mono ?_
          rintro e w2 ⟨rfl, hb2'⟩
          have HB2 := hide hb2'
          clear hb2'
          go_wp2_with fail
          go_meet
          exact ⟨rfl, unhide HB2⟩
        · have h2 : ((at_ : Int) == 256) = false := by rw [beq_eq_false_iff_ne]; omega
          go_wp2_with fail
          go_meet
          exact ⟨rfl, Below.refl _ _⟩
      case rest =>
        obtain ⟨rfl, hbc⟩ := hcut
        obtain ⟨w2, hw2⟩ : ∃ w2, w2 = wc := ⟨_, rfl⟩
        subst hw2
        have B2 := hide ((unhide B1).trans (hbc.mono (unhide B1).size))
        have X2 := hide ((unhide X1).below hbc)
        have L2 := hide ((unhide L1).below hbc)
        have R2 := hide ((unhide R1).below hbc)
        clear x0 x1 x2 x3 hbc B1 X1 L1 R1
        have x0 := (unhide X2).cell 0 rfl
        have x1 := (unhide X2).cell 1 rfl
        have x2 := (unhide X2).cell 2 rfl
        have x3 := (unhide X2).cell 3 rfl
        go_wp2_with fail
        refine (unhide HLF w2).mono ?_
        rintro e w3 ⟨rfl, hb3⟩
        have B3 := hide ((unhide B2).trans (hb3.mono (unhide B2).size))
        have X3 := hide ((unhide X2).below hb3)
        have L3 := hide ((unhide L2).below hb3)
        have R3 := hide ((unhide R2).below hb3)
        clear hb3 B2 X2 L2 R2 HLF x0 x1 x2 x3
        have x2 := (unhide X3).cell 2 rfl
        go_wp2_with fail
        refine (unhide HBT w3).mono ?_
        rintro e w9 ⟨rfl, hw9⟩
        subst w9
        have m0 : (0 : Int) ≤ (kb : Int) := by omega
        have m1 : (kb : Int) < 2 := by omega
        obtain ⟨ka0, kc0, hk0, _, _⟩ := ((unhide HAT).kids 0 (by simp)).shape
        obtain ⟨ka1, kc1, hk1, _, _⟩ := ((unhide HAT).kids 1 (by simp)).shape
        have BB := (Below.refl w3.heap.size w3).alloc (Nat.le_refl _) (.cells #[] 28)
        have B5 := hide ((unhide B3).trans (BB.mono (unhide B3).size))
        have X5 := hide ((unhide X3).below BB)
        have L5 := hide ((unhide L3).below BB)
        have R5 := hide ((unhide R3).below BB)
        have O5 : Hid ((w3.alloc (.cells #[] 28)).ownsRow w3.heap.size 28 4 (.slice (some ⟨w3.heap.size, 0, none⟩) 0 0) 0 []) := hide (World.ownsRow_made w3 #[] 0 (Nat.le_refl _) (by unfold maxLen; omega) rfl)
        have HRW := hide (row2_rw (cap := cap) (unhide HAT) (unhide B5))
        have H1C : Hid (∀ u ∈ row2 l.toBr r.toBr (kvf 0) (kvf 1), u.oneCell' = true) := hide (by rw [hk0, hk1]; exact row2_one)
        have x35 := (unhide X5).cell 3 rfl
        have hE5 : (w3.alloc (.cells #[] 28)).heap.size = w3.heap.size + 1 := by simp
        obtain ⟨i0, hi, hz0, hz1, hz2⟩ := info_parts infoBr
        have hw4 := (unhide B3).size
        have hX4' : w.heap.size < w3.heap.size := (unhide X3).1
        have hL4' : L < w3.heap.size := (unhide L3).1
        have hR4' : R < w3.heap.size := (unhide R3).1
        clear BB X3 R3 B3 L3 x2 hk0 hk1
        go_upto_region 9 with (at_builtin; refine wpList_append_row _ rfl _ _ _ rfl w3.heap.size 28 i0 _ 4 64 Tryd.underlying26 hi hz0 hz1 hz2 rfl (by omega) _ 0 [] rfl (unhide O5) _ 2 (row2 l.toBr r.toBr (kvf 0) (kvf 1)) rfl (unhide HRW) rfl (unhide H1C) (by unfold maxLen; omega) (by omega) (by omega) ?_; intro a6 c6 w6 hown6 hgrow6 hat6; have R6' := hide (And.intro hown6 (And.intro hgrow6 hat6)); clear hown6 hgrow6 hat6)
        obtain ⟨hown6, hgrow6, hat6⟩ := unhide R6'
        obtain ⟨g6, c6', he6, hg6, hg6'⟩ := World.ownsRow.form hown6 (by omega)
        cases he6
        rw [List.nil_append] at hown6
        have B6 := hide (grown6 (unhide B5) hgrow6 hw4)
        have T6 : Touch (fun q => q = w3.heap.size) _ w6 := grownT hgrow6
        have X6 := hide ((unhide X5).kept T6 (fun e => by have e' : w.heap.size = w3.heap.size := e; omega))
        have L6 := hide ((unhide L5).kept T6 (fun e => by have e' : L = w3.heap.size := e; omega))
        have R6 := hide ((unhide R5).kept T6 (fun e => by have e' : R = w3.heap.size := e; omega))
        have O6 := hide hown6
        have x36 := (unhide X6).cell 3 rfl
        have l60 := (unhide L6).cell 0 rfl
        have l61 := (unhide L6).cell 1 rfl
        have l62 := (unhide L6).cell 2 rfl
        have l63 := (unhide L6).cell 3 rfl
        have t0 := ((unhide B6).cell (p := ⟨bb, off + kb * 4, none⟩) hbb).trans d0
        have t1 := ((unhide B6).cell (p := ⟨bb, off + kb * 4 + 1, none⟩) hbb).trans d1
        have t2 := ((unhide B6).cell (p := ⟨bb, off + kb * 4 + 2, none⟩) hbb).trans d2
        have t3 := ((unhide B6).cell (p := ⟨bb, off + kb * 4 + 3, none⟩) hbb).trans d3
        clear hown6 hgrow6 hat6 T6 R6' X5 R5 L5 B5 O5 HRW H1C x35
        have HIH := hide (fun wx (hbx : Below w6.heap.size w6 wx) => unhide IH B0 _ wx (Nat.le_trans hB0 ((unhide B6).trans (hbx.mono (unhide B6).size)).size) ((unhide KN).blw ((unhide B6).trans (hbx.mono (unhide B6).size))))
        have HE4 : Hid (∃ e0 e1 e2 e3, (row2 l.toBr r.toBr (kvf 0) (kvf 1))[kb * 4]? = some e0 ∧ (row2 l.toBr r.toBr (kvf 0) (kvf 1))[kb * 4 + 1]? = some e1 ∧ (row2 l.toBr r.toBr (kvf 0) (kvf 1))[kb * 4 + 2]? = some e2 ∧ (row2 l.toBr r.toBr (kvf 0) (kvf 1))[kb * 4 + 3]? = some e3) := hide ⟨_, _, _, _, List.getElem?_eq_getElem (by simp [row2]; omega), List.getElem?_eq_getElem (by simp [row2]; omega), List.getElem?_eq_getElem (by simp [row2]; omega), List.getElem?_eq_getElem (by simp [row2]; omega)⟩
        obtain ⟨e0, e1, e2, e3, he0, he1, he2, he3⟩ := unhide HE4
        have HST : Hid (∀ w7, Below w6.heap.size w6 w7 → (w7.cell? ⟨g6, kb * 4, none⟩ = some e0 ∧ w7.cell? ⟨g6, kb * 4 + 1, none⟩ = some e1 ∧ w7.cell? ⟨g6, kb * 4 + 2, none⟩ = some e2 ∧ w7.cell? ⟨g6, kb * 4 + 3, none⟩ = some e3) ∧ (w7.frozen? ⟨g6, kb * 4, none⟩ = false ∧ w7.frozen? ⟨g6, kb * 4 + 1, none⟩ = false ∧ w7.frozen? ⟨g6, kb * 4 + 2, none⟩ = false ∧ w7.frozen? ⟨g6, kb * 4 + 3, none⟩ = false)) := hide (fun w7 hb7 => by
          have O7 := own_kept (T := fun _ => False) (unhide O6) (Touch.ofBelow hb7) (fun _ _ h => h)
          exact ⟨⟨(O7.cellAt (kb * 4) (by omega)).trans he0, (O7.cellAt (kb * 4 + 1) (by omega)).trans he1, (O7.cellAt (kb * 4 + 2) (by omega)).trans he2, (O7.cellAt (kb * 4 + 3) (by omega)).trans he3⟩, O7.frozenAt (kb * 4), O7.frozenAt (kb * 4 + 1), O7.frozenAt (kb * 4 + 2), O7.frozenAt (kb * 4 + 3)⟩)
        clear he0 he1 he2 he3
        go_cut [] (fun wx => ∃ (w7 : World) (s7 : Option Addr) (n7 c7 : Nat), Brs (fun x => x < B0 ∨ w6.heap.size ≤ x) w7 (.slice s7 n7 c7) t'.toBr.kids ∧ Below w6.heap.size w6 w7 ∧ wx = (((w7.setCell ⟨g6, kb * 4, none⟩ (.string t'.toBr.key)).setCell ⟨g6, kb * 4 + 1, none⟩ (.string t'.toBr.val)).setCell ⟨g6, kb * 4 + 2, none⟩ (.int .i64 t'.toBr.at_)).setCell ⟨g6, kb * 4 + 3, none⟩ (.slice s7 n7 c7))
        case first =>
          go_wp2_with fail
          go_region_law ((go_simp; go_at_call 72; refine (unhide HIH _ (below_drewN (Below.refl _ _) 1)).mono ?_; rintro e w7 ⟨s7, n7, c7, rfl, hBr7, hb7⟩; (have HB7 := hide (And.intro hBr7 ((below_drewN (Below.refl w6.heap.size w6) 1).trans hb7))); clear hBr7 hb7; (obtain ⟨⟨g0, g1, g2, g3⟩, i0', i1', i2', i3'⟩ := unhide HST w7 (unhide HB7).2); go_simp))
          all_goals
            go_wp2_with fail
            go_meet
            exact ⟨w7, s7, n7, c7, (unhide HB7).1, (unhide HB7).2, rfl⟩
        case rest =>
          obtain ⟨w7, s7, n7, c7, hBr7, hb7, hwc⟩ := hcut
          have O7 := own_kept (T := fun _ => False) (unhide O6) (Touch.ofBelow hb7) (fun _ _ h => h)
          have B7 := (unhide B6).trans (hb7.mono (unhide B6).size)
          have hz67 := hb7.size
          have X7 := (unhide X6).below hb7
          have R7 := (unhide R6).below hb7
          have O8 := (((O7.stored (kb * 4) (.string t'.toBr.key)).1.stored (kb * 4 + 1) (.string t'.toBr.val)).1.stored (kb * 4 + 2) (.int .i64 t'.toBr.at_)).1.stored (kb * 4 + 3) (.slice s7 n7 c7) |>.1
          have T8 : Touch (fun q => q = g6) w7 ((((w7.setCell ⟨g6, kb * 4, none⟩ (.string t'.toBr.key)).setCell ⟨g6, kb * 4 + 1, none⟩ (.string t'.toBr.val)).setCell ⟨g6, kb * 4 + 2, none⟩ (.int .i64 t'.toBr.at_)).setCell ⟨g6, kb * 4 + 3, none⟩ (.slice s7 n7 c7)) :=
            ((((Touch.refl (fun q => q = g6) w7).setCell ⟨g6, kb * 4, none⟩ _ (fun _ => rfl)).setCell ⟨g6, kb * 4 + 1, none⟩ _ (fun _ => rfl)).setCell ⟨g6, kb * 4 + 2, none⟩ _ (fun _ => rfl)).setCell ⟨g6, kb * 4 + 3, none⟩ _ (fun _ => rfl)
          rw [← hwc] at O8 T8
          have X8 := hide (X7.kept T8 (fun e => by have e' : w.heap.size = g6 := e; omega))
          have R8 := hide (R7.kept T8 (fun e => by have e' : R = g6 := e; omega))
          have B8 := hide (B7.trans (T8.below B7.size (fun q hq e => by have e' : q = g6 := e; omega)))
          have HBr8 := hide (hBr7.touch T8 (fun q hq e => by have e' : q = g6 := e; omega))
          have HO8 := hide O8
          clear O7 O8 T8 B7 X7 R7 hBr7 hb7 hwc X6 R6 L6 B6 O6 x36 l60 l61 l62 l63 t0 t1 t2 t3 HIH HST HE4
          obtain ⟨w8, hw8⟩ : ∃ w8, w8 = wc := ⟨_, rfl⟩
          subst hw8
          have x28 := (unhide X8).cell 2 rfl
          have r0' := (unhide R8).cell 0 rfl
          have r1' := (unhide R8).cell 1 rfl
          have r2' := (unhide R8).cell 2 rfl
          have r3' := (unhide R8).cell 3 rfl
          have f0 := (unhide R8).fro 0
          have f1 := (unhide R8).fro 1
          have f2 := (unhide R8).fro 2
          have f3 := (unhide R8).fro 3
          have hZ := set4_blk (unhide R8) (.string ⟨#[]⟩) (.string ⟨#[]⟩) (.int .i64 a) (.slice (some ⟨g6, 0, none⟩) 2 c6)
          have z0 := hZ.cell 0 rfl
          have z1 := hZ.cell 1 rfl
          have z2 := hZ.cell 2 rfl
          have z3 := hZ.cell 3 rfl
          have HT4 := hide (set4_touch w8 R (.string ⟨#[]⟩) (.string ⟨#[]⟩) (.int .i64 a) (.slice (some ⟨g6, 0, none⟩) 2 c6))
          have HBF := hide ((unhide B8).trans ((unhide HT4).below (unhide B8).size (fun q hq e => by have := (unhide HRS); omega)))
          unfold set4 at z0 z1 z2 z3
          clear hZ
          go_wp2_with fail
          refine bodyPost_ret (v := .agg #[.string ⟨#[]⟩, .string ⟨#[]⟩, .int .i64 a, .slice (some ⟨g6, 0, none⟩) 2 c6]) (by simp [results, Tryd.results72, go_sem, z0, z1, z2, z3]) rfl ?_
          have hrs := unhide HRS
          have O9 := own_kept (unhide HO8) (unhide HT4) (fun q hq e => by
            have e1 : g6 = q := by simpa [Value.ownBlock] using hq
            have e2 : q = R := e
            omega)
          have K9 := ((unhide HBr8).touch (unhide HT4) (fun q hq e => by have e2 : q = R := e; omega)).mono (T := fun x => x < B0 ∨ w.heap.size ≤ x) (fun x hx => by omega)
          have zt := toBr_small (unhide HOT)
          have zl := toBr_small okl
          have zr := toBr_small okr
          have L0' := (((unhide HAT).kids 0 (by simp)).mono (T := fun x => x < B0 ∨ w.heap.size ≤ x) (fun x hx => .inl hx)).blw (unhide HBF)
          have L1' := (((unhide HAT).kids 1 (by simp)).mono (T := fun x => x < B0 ∨ w.heap.size ≤ x) (fun x hx => .inl hx)).blw (unhide HBF)
          rcases (show kb = 0 ∨ kb = 1 by omega) with hk | hk
          · subst hk
            exact unhide HGR (some ⟨g6, 0, none⟩) 2 c6 _ (brs_two (b0 := t'.toBr) (b1 := r.toBr) (v0 := .slice s7 n7 c7) (v1 := kvf 1) O9 zt zr K9 L1' (.inr (by omega))) (unhide HBF)
          · subst hk
            exact unhide HGR (some ⟨g6, 0, none⟩) 2 c6 _ (brs_two (b0 := l.toBr) (b1 := t'.toBr) (v0 := kvf 0) (v1 := .slice s7 n7 c7) O9 zl zt L0' K9 (.inr (by omega))) (unhide HBF)
    · have := l07Insert_build k v h hh at_ (by have := hr.2.1; omega) hkv (.fork a hv l r) hok (.inr (by show (at_ : Int) < (a : Int); omega)) B0 kv w hB0 hB
      unfold putT
      rw [if_neg hlt]
      exact this
end Go.Proofs.YtgmaappilopgbaaDoor.Sha
namespace Go.Proofs.YtgmaappilopgbaaDoor.Sha
open Go.ChangeShapes Go.WideShapes Go.ChangeAt Go.RowKit Go.Shelf
set_option linter.unusedVariables false
set_option linter.unusedSimpArgs false
attribute [local go_sem] Oper.semAt_some

/-- A leaf in memory, as it lies in the world w0 below n₀. -/
abbrev LfA (w0 : World) (n₀ : Nat) := { x : Nat × ByteArray × ByteArray // x.1 < n₀ ∧ w0.cell? ⟨x.1, 0, none⟩ = some (.string x.2.1) ∧ w0.cell? ⟨x.1, 1, none⟩ = some (.string x.2.2) }
inductive LT (w0 : World) (n₀ : Nat) where
  | leaf (x : LfA w0 n₀)
  | fork (a : Nat) (l r : LT w0 n₀)
def LT.list {w0 : World} {n₀ : Nat} : LT w0 n₀ → List (LfA w0 n₀)
  | .leaf x => [x]
  | .fork _ l r => l.list ++ r.list
def IsLT {w0 : World} {n₀ : Nat} (W : World) : Nat → LT w0 n₀ → Prop
  | p, .leaf x => p = x.1.1 ∧ W.cell? ⟨p, 3, none⟩ = some (.int .i64 256)
  | p, .fork a l r => p < n₀ ∧ a < 256 ∧ W.cell? ⟨p, 3, none⟩ = some (.int .i64 a) ∧ ∃ pl pr, W.cell? ⟨p, 4, none⟩ = some (.pointer (some ⟨pl, 0, none⟩)) ∧ W.cell? ⟨p, 5, none⟩ = some (.pointer (some ⟨pr, 0, none⟩)) ∧ IsLT W pl l ∧ IsLT W pr r
theorem IsLT.below {w0 A B : World} {n₀ : Nat} (h : Below n₀ A B) : ∀ {T : LT w0 n₀} {p : Nat}, IsLT A p T → IsLT B p T
  | .leaf x, p, ⟨h1, h2⟩ => ⟨h1, (h.cell (p := ⟨p, 3, none⟩) (by rw [h1]; exact x.2.1)).trans h2⟩
  | .fork a l r, p, ⟨h0, h1, h2, pl, pr, h3, h4, h5, h6⟩ => ⟨h0, h1, (h.cell (p := ⟨p, 3, none⟩) h0).trans h2, pl, pr, (h.cell (p := ⟨p, 4, none⟩) h0).trans h3, (h.cell (p := ⟨p, 5, none⟩) h0).trans h4, h5.below h, h6.below h⟩
theorem wide_room (k : Nat) : Fence.wide.room k := fun d h => by cases h
theorem yield_wide {m : Nat} (m' : Nat) {P : Program} {l : Nat} {args : Array Value} {W : World} {R : Ending → World → Prop} (h : YieldAt Fence.wide m P l args W R) : YieldAt Fence.wide m' P l args W R := by
  obtain ⟨fn, tmps, asg, bd, hy, hR⟩ := h
  exact ⟨fn, tmps, asg, bd, hy, hR.1, fun c cs _ => hR.2 c cs (wide_room _)⟩
/-- The leaves of a map, in their order. -/
def Tr.lvs : Tr → List (ByteArray × ByteArray)
  | .leaf k v => [(k, v)]
  | .fork _ _ l r => l.lvs ++ r.lvs
theorem lt_of_nd {w : World} {S : Nat → Prop} {p : Nat} {t : Tr} (h : Nd w S p t) : TrOK t → ∃ T : LT w w.heap.size, IsLT w p T ∧ T.list.map (fun x => x.1.2) = t.lvs := by
  induction h with
  | leaf S p k v h0 h1 => intro _; exact ⟨.leaf ⟨(p, k, v), h1.1, h1.cell 0 rfl, h1.cell 1 rfl⟩, ⟨rfl, h1.cell 3 rfl⟩, rfl⟩
  | fork S Sl Sr p a h l r pl pr h0 h1 h2 h3 h4 h5 h6 i1 i2 =>
    intro ho
    obtain ⟨T1, a1, b1⟩ := i1 ho.2.2.1
    obtain ⟨T2, a2, b2⟩ := i2 ho.2.2.2
    exact ⟨.fork a T1 T2, ⟨h4.1, ho.1, h4.cell 3 rfl, pl, pr, h4.cell 4 rfl, h4.cell 5 rfl, a1, a2⟩, by simp only [LT.list, List.map_append, b1, b2]; rfl⟩
set_option maxRecDepth 100000 in
set_option maxHeartbeats 2000000 in
theorem visit_in {w0 : World} {n₀ : Nat} (l N : Nat) (J Jx : List (LfA w0 n₀) → World → Prop)
    (hY : ∀ m pre x W, J pre W → pre.length < N → YieldAt Fence.wide m Tryd.prog l #[.pointer (some ⟨x.1.1, 0, none⟩)] W fun e W' =>
      (e = .returned (.bool true) ∧ J (pre ++ [x]) W' ∧ Below n₀ W W') ∨ (e = .returned (.bool false) ∧ Jx (pre ++ [x]) W')) (T : LT w0 n₀) :
    ∀ (n : Nat) (p : Nat) (pre : List (LfA w0 n₀)) (W : World), IsLT W p T → J pre W → pre.length + T.list.length ≤ N →
      CallsIn Fence.wide n Tryd.prog 112 #[.pointer (some ⟨p, 0, none⟩), .func (.yield l) #[] #[]] W fun e W' =>
        (e = .returned (.bool true) ∧ J (pre ++ T.list) W' ∧ Below n₀ W W') ∨ (e = .returned (.bool false) ∧ ∃ q, q <+: T.list ∧ Jx (pre ++ q) W') := by
  induction T with
  | leaf x =>
    intro n p pre W ht hJ hN
    obtain ⟨rfl, c3⟩ := ht
    obtain ⟨fn, tmps, asg, bd, hy, hR⟩ := hY (n - 1) pre x W hJ (by simp [LT.list] at hN; omega)
    refine callsIn_of_wp Tryd.func112 rfl trivial ?_ rfl
    simp only [Tryd.ntmps112, List.size_toArray, List.length_cons, List.length_nil, Nat.reduceAdd, Nat.reduceSub, Array.replicate_succ, Array.replicate_zero, List.push_toArray, List.append_toArray, List.nil_append, List.cons_append]
    gi_wp2
    refine ⟨fun h => (by cases h), ?_⟩
    refine hR.mono ?_
    rintro e W2 (⟨rfl, hJ2, hb2⟩ | ⟨rfl, hx2⟩)
    · gi_wp2
      go_ret
      exact .inl ⟨rfl, hJ2, hb2⟩
    · gi_wp2
      go_ret
      exact .inr ⟨rfl, [x], List.prefix_refl _, hx2⟩
  | fork a tl tr ihl ihr =>
    intro n p pre W ht hJ hN
    obtain ⟨h0, ha, c3, pl, pr, c4, c5, hl, hr⟩ := ht
    simp only [LT.list, List.length_append] at hN
    have hdd : ∀ k : Nat, (Fence.wide.depth.isSome = true → 1 ≤ k) := fun k h => by cases h
    have hab : ((a : Int) == 256) = false := by rw [beq_eq_false_iff_ne]; omega
    have ih1 := (ihl (n - 1) pl pre W hl hJ (by omega)).mono (R' := fun e W1 =>
        (e = .returned (.bool true) ∧ W1.cell? ⟨p, 5, none⟩ = some (.pointer (some ⟨pr, 0, none⟩)) ∧ J (pre ++ tl.list) W1 ∧ Below n₀ W W1 ∧ IsLT W1 pr tr) ∨
        (e = .returned (.bool false) ∧ ∃ q, q <+: tl.list ∧ Jx (pre ++ q) W1))
      (fun e W1 h => h.elim (fun ⟨he, hj, hb1⟩ => .inl ⟨he, (hb1.cell (p := ⟨p, 5, none⟩) h0).trans c5, hj, hb1, hr.below hb1⟩) .inr)
    clear ihl
    refine callsIn_of_wp Tryd.func112 rfl trivial ?_ rfl
    simp only [Tryd.ntmps112, List.size_toArray, List.length_cons, List.length_nil, Nat.reduceAdd, Nat.reduceSub, Array.replicate_succ, Array.replicate_zero, List.push_toArray, List.append_toArray, List.nil_append, List.cons_append]
    gi_wp2_with (first
      | (refine ⟨trivial, ?_⟩; (try refine ⟨hdd _, ?_⟩); gi_at_call 112; refine ih1.mono ?_; clear ih1; rintro e W1 (⟨rfl, c5', hJ1, hb1, hr1⟩ | ⟨rfl, q, hq, hx1⟩))
      | (refine ⟨trivial, ?_⟩; (try refine ⟨hdd _, ?_⟩); gi_at_call 112; refine (ihr (n - 1) pr _ _ hr1 hJ1 (by simp; omega)).mono ?_; rintro e W3 (⟨rfl, hJ3, hb3⟩ | ⟨rfl, q, hq, hx3⟩)))
    · go_ret
      exact .inl ⟨rfl, by simpa [LT.list, List.append_assoc] using hJ3, hb1.trans hb3⟩
    · go_ret
      obtain ⟨r, hr'⟩ := hq
      exact .inr ⟨rfl, tl.list ++ q, ⟨r, by simp [LT.list, ← hr']⟩, by simpa [List.append_assoc] using hx3⟩
    · refine ⟨trivial, ?_⟩
      gi_wp2
      go_ret
      exact .inr ⟨rfl, q, hq.trans (by simp [LT.list]), hx1⟩
set_option maxHeartbeats 1000000 in
theorem visit_nil (l n : Nat) (W : World) :
    CallsIn Fence.wide n Tryd.prog 112 #[.pointer none, .func (.yield l) #[] #[]] W fun e W' => e = .returned (.bool true) ∧ W' = W := by
  refine callsIn_of_wp Tryd.func112 rfl trivial ?_ rfl
  simp only [Tryd.ntmps112, List.size_toArray, List.length_cons, List.length_nil, Nat.reduceAdd, Nat.reduceSub, Array.replicate_succ, Array.replicate_zero, List.push_toArray, List.append_toArray, List.nil_append, List.cons_append]
  gi_wp2
  go_ret
  exact ⟨rfl, rfl⟩
/-- A pointer to a map's nodes, or nil; the leaves. -/
def IsLO {w0 : World} {n₀ : Nat} (W : World) : Option Addr → Option (LT w0 n₀) → Prop
  | pv, none => pv = none
  | pv, some T => ∃ p, pv = some ⟨p, 0, none⟩ ∧ IsLT W p T
def LO.list {w0 : World} {n₀ : Nat} : Option (LT w0 n₀) → List (LfA w0 n₀)
  | none => []
  | some T => T.list
theorem IsLO.below {w0 A B : World} {n₀ : Nat} (h : Below n₀ A B) {o : Option (LT w0 n₀)} {pv : Option Addr} (hl : IsLO A pv o) : IsLO B pv o := by
  cases o with
  | none => exact hl
  | some T => obtain ⟨p, h1, h2⟩ := hl; exact ⟨p, h1, h2.below h⟩
set_option maxHeartbeats 1000000 in
theorem leaves1_in {w0 : World} {n₀ : Nat} (n l Bt : Nat) (pv : Option Addr) (o : Option (LT w0 n₀)) (J Jx : List (LfA w0 n₀) → World → Prop)
    (hY : ∀ pre x W, J pre W → pre.length < (LO.list o).length → YieldAt Fence.wide (n - 1) Tryd.prog l #[.pointer (some ⟨x.1.1, 0, none⟩)] W fun e W' =>
      (e = .returned (.bool true) ∧ J (pre ++ [x]) W' ∧ Below n₀ W W') ∨ (e = .returned (.bool false) ∧ Jx (pre ++ [x]) W'))
    (W : World) (hBt : W.cell? ⟨Bt, 0, none⟩ = some (.pointer pv)) (hT : IsLO W pv o) (h0 : J [] W) :
    CallsIn Fence.wide n Tryd.prog 111 #[.func (.yield l) #[] #[], .pointer (some ⟨Bt, 0, none⟩)] W fun e W' => (∃ v, e = .returned v) ∧
      ((∃ ys, ys = LO.list o ∧ J ys W') ∨ (∃ pre, pre <+: LO.list o ∧ Jx pre W')) := by
  have hdd : ∀ k : Nat, (Fence.wide.depth.isSome = true → 1 ≤ k) := fun k h => by cases h
  cases o with
  | none =>
    obtain rfl : pv = none := hT
    have hp := visit_nil l (n - 1) W
    refine callsIn_of_wp Tryd.func111 rfl trivial ?_ rfl
    simp only [Tryd.ntmps111, List.size_toArray, List.length_cons, List.length_nil, Nat.reduceAdd, Nat.reduceSub, Array.replicate_succ, Array.replicate_zero, List.push_toArray, List.append_toArray, List.nil_append, List.cons_append]
    gi_wp2_with (refine ⟨trivial, ?_⟩; (try refine ⟨hdd _, ?_⟩); gi_at_call 112; refine hp.mono ?_; clear hp; rintro e W1 ⟨rfl, rfl⟩)
    go_end0
    exact ⟨⟨_, rfl⟩, .inl ⟨_, rfl, h0⟩⟩
  | some T =>
    obtain ⟨p, rfl, hT'⟩ := hT
    have hp := visit_in l T.list.length J Jx (fun m pre x W hj hl => yield_wide m (hY pre x W hj hl)) T (n - 1) p [] W hT' h0 (by simp)
    refine callsIn_of_wp Tryd.func111 rfl trivial ?_ rfl
    simp only [Tryd.ntmps111, List.size_toArray, List.length_cons, List.length_nil, Nat.reduceAdd, Nat.reduceSub, Array.replicate_succ, Array.replicate_zero, List.push_toArray, List.append_toArray, List.nil_append, List.cons_append]
    gi_wp2_with (refine ⟨trivial, ?_⟩; (try refine ⟨hdd _, ?_⟩); gi_at_call 112; refine hp.mono ?_; clear hp; rintro e W1 (⟨rfl, hJ1, _⟩ | ⟨rfl, q, hq, hx⟩))
    · go_end0
      exact ⟨⟨_, rfl⟩, .inl ⟨_, rfl, by simpa [LO.list] using hJ1⟩⟩
    · go_end0
      exact ⟨⟨_, rfl⟩, .inr ⟨q, hq, by simpa using hx⟩⟩
set_option maxHeartbeats 1000000 in
theorem leaves_in (n : Nat) (pv : Option Addr) (w : World) :
    CallsIn Fence.wide n Tryd.prog 79 #[.pointer pv] w fun e w' => e = .returned (.func (.func 111) #[] #[.pointer (some ⟨w.heap.size, 0, none⟩)]) ∧ w' = w.alloc (.cells #[.pointer pv] 65) := by
  refine callsIn_of_wp Tryd.func79 rfl trivial ?_ rfl
  simp only [Tryd.ntmps79, List.size_toArray, List.length_cons, List.length_nil, Nat.reduceAdd, Nat.reduceSub, Array.replicate_succ, Array.replicate_zero, List.push_toArray, List.append_toArray, List.nil_append, List.cons_append]
  gi_wp2
  go_ret
  exact ⟨rfl, rfl⟩
theorem leaves_stops {w0 : World} {n₀ : Nat} (n Bt : Nat) (pv : Option Addr) (o : Option (LT w0 n₀)) (w : World) (hBt : Bt < w.heap.size) (hn₀ : n₀ ≤ w.heap.size)
    (hc : w.cell? ⟨Bt, 0, none⟩ = some (.pointer pv)) (hT : IsLO w pv o) :
    SeqStopsK Fence.wide n Tryd.prog 111 #[.pointer (some ⟨Bt, 0, none⟩)] (fun x : LfA w0 n₀ => #[Value.pointer (some ⟨x.1.1, 0, none⟩)]) (Below n₀) (fun ys => ys = LO.list o) (fun pre => pre <+: LO.list o) (LO.list o).length w := fun l J Jx W hW _ _ hY h0 =>
  leaves1_in n l Bt pv o J Jx hY W ((hW.cell (p := ⟨Bt, 0, none⟩) hBt).trans hc) (hT.below (hW.mono hn₀)) h0
theorem box_cell (W : World) (v : Value) (t : TypeId) : (W.alloc (.cells #[v] t)).cell? ⟨W.heap.size, 0, none⟩ = some v ∧ (W.alloc (.cells #[v] t)).frozen? ⟨W.heap.size, 0, none⟩ = false :=
  have h := Blk.new W #[v] t W.heap.size rfl
  ⟨h.cell 0 rfl, h.fro 0⟩
theorem alloc_cell {W : World} {a : Addr} {v : Value} (o : Obj) (h : W.cell? a = some v) (hf : W.frozen? a = false) : (W.alloc o).cell? a = some v ∧ (W.alloc o).frozen? a = false :=
  ⟨cell_kept h (World.grownBy_alloc W o none) (fun r e => by cases e), (frozen_kept h (World.grownBy_alloc W o none) (fun r e => by cases e)).trans hf⟩
set_option maxRecDepth 100000 in
set_option maxHeartbeats 2000000 in
theorem size_in (n : Nat) (hn : 3 ≤ n) (pv : Option Addr) (w : World) (o : Option (LT w w.heap.size)) (hL : IsLO w pv o) (h40 : (LO.list o).length ≤ 1000) :
    CallsIn Fence.wide n Tryd.prog 41 #[.pointer pv] w fun e W' => e = .returned (.int .i64 (LO.list o).length) ∧ Below w.heap.size w W' := by
  have h1 : 1 ≤ n := by omega
  have hdd : ∀ k : Nat, (Fence.wide.depth.isSome = true → 1 ≤ k) := fun k h => by cases h
  refine callsIn_of_wp_marks Tryd.func41 rfl trivial ?_ rfl
  simp only [Tryd.ntmps41, List.size_toArray, List.length_cons, List.length_nil, Nat.reduceAdd, Nat.reduceSub, Array.replicate_succ, Array.replicate_zero, List.push_toArray, List.append_toArray, List.nil_append, List.cons_append]
  gi_wp2_with (refine ⟨trivial, ?_⟩; (try refine ⟨hdd _, ?_⟩); gi_at_call 79; refine (leaves_in (n - 1) _ _).mono ?_; rintro e w' ⟨rfl, rfl⟩)
  have hs := box_cell w (.int .i64 0) 3
  have hs2 := alloc_cell (.cells #[.pointer pv] 65) hs.1 hs.2
  have hb := box_cell (w.alloc (.cells #[.int .i64 0] 3)) (.pointer pv) 65
  rw [World.size_alloc] at hb
  have hB0 : Below w.heap.size w ((w.alloc (.cells #[.int .i64 0] 3)).alloc (.cells #[.pointer pv] 65)) := ((Below.refl _ w).alloc (Nat.le_refl _) _).alloc (by simp) _
  refine wpIn_rangeFunc_ownF rfl h1 (gf := 111) (lb := #[.pointer (some ⟨w.heap.size + 1, 0, none⟩)]) rfl trivial (enters_of Tryd.func111 (by kernel_rfl) rfl)
    (leaves_stops (n - 1) (w.heap.size + 1) pv o _ (by simp) (by simp; omega) hb.1 (hL.below hB0)) belowK_t (belowK_b (by simp; omega)) (Below.refl _ _) (fun _ => rfl)
    (fun pre W => (W.cell? ⟨w.heap.size, 0, none⟩ = some (.int .i64 pre.length) ∧ W.frozen? ⟨w.heap.size, 0, none⟩ = false) ∧ Below w.heap.size w W)
    (fun _ _ _ => False)
    (OwnFrom.and (Own.from (fun s A B row hs hg hr => ⟨cell_kept hs.1 hg hr, (frozen_kept hs.1 hg hr).trans hs.2⟩) _) (ownFrom_below (Nat.le_refl _) (by simp; omega)))
    (fun _ _ _ _ _ hs _ _ => hs)
    ⟨hs2, hB0⟩
    (fun x => { tmps := #[.pointer pv, undef, .int .i64 0, .pointer (some ⟨w.heap.size, 0, none⟩), .pointer pv, .func (.func 111) #[] #[.pointer (some ⟨w.heap.size + 1, 0, none⟩)], .pointer (some ⟨x.1.1, 0, none⟩), undef, undef, undef], defers := [] }) ?assign ?body ?done ?stop
  case assign =>
    intro l x W K hK
    gi_wp2
    first | exact hK | simpa using hK | simpa [Array.zip] using hK | (rw [List.zip_toArray]; simpa using hK)
  case body =>
    rintro l pre x W ⟨⟨hc, hf⟩, hB⟩ hlen
    have hle : pre.length + 1 ≤ 1000 := by omega
    have hw : wrap64 ((pre.length : Int) + 1) = ((pre ++ [x]).length : Int) := by unfold wrap64; simp; omega
    gi_wp2
    exact ⟨KeepsOthers.setCell _ _ _, (Below.refl w.heap.size W).setCell (p := ⟨w.heap.size, 0, none⟩) (Nat.le_refl _) _, ⟨by first | (rw [← hw]; exact World.cell?_setCell_same' _ _ _ (by rw [hc]; rfl)) | (rw [show ((pre ++ [x]).length : Int) = (pre.length : Int) + 1 by simp]; exact World.cell?_setCell_same' _ _ _ (by rw [hc]; rfl)), by rw [World.frozen?_setCell]; exact hf⟩, hB.setCell (p := ⟨w.heap.size, 0, none⟩) (Nat.le_refl _) _⟩
  case done =>
    rintro D ys W hD rfl ⟨⟨hc, _⟩, hB⟩ hK
    gi_wp2
    refine ⟨by simp, .inl ⟨_, _, rfl, run_takeDeferred hK, ?_⟩⟩
    exact ⟨_, results_tmp rfl _ _ _, rfl, hB.trans (belowK_b (w := w) (Nat.le_refl _) W D _ _ (by simp at hD; omega) hK rfl rfl)⟩
  case stop =>
    rintro D c pre W _ _ h _
    exact h.elim
theorem size_any {w : World} {S : Nat → Prop} {p : Nat} {t : Tr} (h : Nd w S p t) (ho : TrOK t) (h40 : t.lvs.length ≤ 1000) :
    Calls Tryd.prog 41 #[.pointer (some ⟨p, 0, none⟩)] w fun e w' => e = .returned (.int .i64 t.lvs.length) ∧ Below w.heap.size w w' := by
  obtain ⟨T, h1, h2⟩ := lt_of_nd h ho
  have hl : (LO.list (some T)).length = t.lvs.length := by rw [← h2]; simp [LO.list]
  have := callsIn_wide.1 (size_in 3 (Nat.le_refl _) _ w (some T) ⟨p, rfl, h1⟩ (by omega))
  rw [hl] at this
  exact this
end Go.Proofs.YtgmaappilopgbaaDoor.Sha
namespace Go.Proofs.YtgmaappilopgbaaDoor.Sha
open Go.ChangeShapes Go.WideShapes Go.ChangeAt Go.RowKit
set_option linter.unusedVariables false
set_option linter.unusedSimpArgs false

theorem with_end0 {w w1 w2 : World} {S Sl Sr : Nat → Prop} {p q a pr p' : Nat} {hv : ByteArray} {l' r : Tr} (hw : Below w.heap.size w w1) (hsz : w1.heap.size = w.heap.size) (hp : S p) (h1 : ∀ b, Sl b → S b ∧ b ≠ p) (h2 : ∀ b, Sr b → S b ∧ b ≠ p) (h3 : ∀ b, Sl b → ¬ Sr b) (hS : ∀ b, S b → b < w.heap.size) (hqS : ¬ S q)
    {pl : Nat} (X : Blk w1 p (fkC hv a pl pr)) (hr : Nd w1 Sr pr r) (hn : Nd w2 (fun b => Sl b ∨ b = q ∨ (w1.heap.size ≤ b ∧ b < w2.heap.size)) p' l') (hT : Touch Sl w1 w2) :
    WithR S q (.fork a hv l' r) w (.returned (.pointer (some ⟨p, 0, none⟩))) (w2.setCell ⟨p, 4, none⟩ (.pointer (some ⟨p', 0, none⟩))) := by
  have X2 := X.kept hT (fun e => (h1 p e).2 rfl)
  have XS := X2.set 4 (.pointer (some ⟨p', 0, none⟩)) (by simp [fkC])
  have tp := (Touch.refl (fun b => b = p) w2).setCell ⟨p, 4, none⟩ (.pointer (some ⟨p', 0, none⟩)) (fun _ => rfl)
  have hts := tp.size
  have hps := hS p hp
  have NK := hn.touch tp (fun b hb e => by
    rcases hb with hb | hb | hb
    · exact (h1 b hb).2 e
    · exact hqS (by rw [← hb, e]; exact hp)
    · omega)
  have NO := (hr.touch hT (fun b hb e => h3 b e hb)).touch tp (fun b hb e => (h2 b hb).2 e)
  refine ⟨p, rfl, .fork _ (fun b => Sl b ∨ b = q ∨ (w1.heap.size ≤ b ∧ b < w2.heap.size)) Sr p a hv l' r p' pr (.inl hp) (fun b hb => ?_) (fun b hb => ⟨.inl (h2 b hb).1, (h2 b hb).2⟩) (fun b hb hr' => ?_) XS NK NO, ?_⟩
  · rcases hb with hb | hb | hb
    · exact ⟨.inl (h1 b hb).1, (h1 b hb).2⟩
    · exact ⟨.inr (.inl hb), fun e => hqS (by rw [← hb, e]; exact hp)⟩
    · exact ⟨.inr (.inr ⟨by omega, by omega⟩), by omega⟩
  · rcases hb with hb | hb | hb
    · exact h3 b hb hr'
    · exact hqS (by rw [← hb]; exact (h2 b hr').1)
    · have := hS b (h2 b hr').1
      omega
  · exact ((Touch.ofBelow (T := S) hw).trans hT (fun b _ e => (h1 b e).1)).trans tp (fun b _ e => by rw [e]; exact hp)
theorem with_end1 {w w1 w2 : World} {S Sl Sr : Nat → Prop} {p q a pl p' : Nat} {hv : ByteArray} {l r' : Tr} (hw : Below w.heap.size w w1) (hsz : w1.heap.size = w.heap.size) (hp : S p) (h1 : ∀ b, Sl b → S b ∧ b ≠ p) (h2 : ∀ b, Sr b → S b ∧ b ≠ p) (h3 : ∀ b, Sl b → ¬ Sr b) (hS : ∀ b, S b → b < w.heap.size) (hqS : ¬ S q)
    {pr : Nat} (X : Blk w1 p (fkC hv a pl pr)) (hl : Nd w1 Sl pl l) (hn : Nd w2 (fun b => Sr b ∨ b = q ∨ (w1.heap.size ≤ b ∧ b < w2.heap.size)) p' r') (hT : Touch Sr w1 w2) :
    WithR S q (.fork a hv l r') w (.returned (.pointer (some ⟨p, 0, none⟩))) (w2.setCell ⟨p, 5, none⟩ (.pointer (some ⟨p', 0, none⟩))) := by
  have X2 := X.kept hT (fun e => (h2 p e).2 rfl)
  have XS := X2.set 5 (.pointer (some ⟨p', 0, none⟩)) (by simp [fkC])
  have tp := (Touch.refl (fun b => b = p) w2).setCell ⟨p, 5, none⟩ (.pointer (some ⟨p', 0, none⟩)) (fun _ => rfl)
  have hts := tp.size
  have hps := hS p hp
  have NK := hn.touch tp (fun b hb e => by
    rcases hb with hb | hb | hb
    · exact (h2 b hb).2 e
    · exact hqS (by rw [← hb, e]; exact hp)
    · omega)
  have NO := (hl.touch hT (fun b hb e => h3 b hb e)).touch tp (fun b hb e => (h1 b hb).2 e)
  refine ⟨p, rfl, .fork _ Sl (fun b => Sr b ∨ b = q ∨ (w1.heap.size ≤ b ∧ b < w2.heap.size)) p a hv l r' pl p' (.inl hp) (fun b hb => ⟨.inl (h1 b hb).1, (h1 b hb).2⟩) (fun b hb => ?_) (fun b hl' hb => ?_) XS NO NK, ?_⟩
  · rcases hb with hb | hb | hb
    · exact ⟨.inl (h2 b hb).1, (h2 b hb).2⟩
    · exact ⟨.inr (.inl hb), fun e => hqS (by rw [← hb, e]; exact hp)⟩
    · exact ⟨.inr (.inr ⟨by omega, by omega⟩), by omega⟩
  · rcases hb with hb | hb | hb
    · exact h3 b hl' hb
    · exact hqS (by rw [← hb]; exact (h1 b hl').1)
    · have := hS b (h1 b hl').1
      omega
  · exact ((Touch.ofBelow (T := S) hw).trans hT (fun b _ e => (h2 b e).1)).trans tp (fun b _ e => by rw [e]; exact hp)
set_option maxRecDepth 100000 in
set_option maxHeartbeats 4000000 in
theorem with_any (k v : ByteArray) (at_ : Nat) (hat : at_ ≤ 256) (hk : k.size ≤ 65536) : ∀ (t : Tr) (m : Nat) (w : World) (S : Nat → Prop) (p q : Nat), Nd w S p t → Rise m t → Sep t → TrOK t → (∀ b, S b → b < w.heap.size) → Blk w q (lfC k v) → ¬ S q → at_ = fd (kh (leadL (kh k) t).1) (kh k) →
    Calls Tryd.prog 81 #[.pointer (some ⟨p, 0, none⟩), .pointer (some ⟨q, 0, none⟩), .int .i64 at_] w fun e w' => WithR S q (putT (kh k) at_ k v t) w e w' := by
  intro t
  induction t with
  | leaf k' v' =>
    intro m w S p q hn hr hs ho hS hq hqS hfd
    have HNF := hide (fun (ha : at_ < 256) => newFork_nd (a := at_) hn (hash_of_ok ho) hS hq hqS hk ha (by
      have h1 := ((fd_iff (kh (leadL (kh k) (.leaf k' v')).1) (kh k) at_ ha).1 hfd.symm).2
      exact fun e => h1 e.symm))
    cases hn with
    | leaf S p k' v' h0 h1 =>
      have x3 := h1.cell 3 rfl
      by_cases h256 : at_ = 256
      · have HG : Hid (WithR S q (putT (kh k) at_ k v (.leaf k' v')) w (.returned (.pointer (some ⟨q, 0, none⟩))) w) := hide (by
          unfold putT
          rw [if_pos h256]
          exact ⟨q, rfl, .leaf _ q k v (.inr (.inl rfl)) hq, Touch.refl _ _⟩)
        subst h256
        clear h1 hr hs ho hq hfd HNF
        go_enter Tryd.func81, Tryd.ntmps81
        go_wp2_with fail
        go_ret
        exact unhide HG
      · have HF := hide (unhide HNF (by omega))
        have HP : Hid (putT (kh k) at_ k v (.leaf k' v') = forkT at_ (kh k) k v (.leaf k' v')) := hide (by conv => lhs; unfold putT; rw [if_neg h256])
        have hb1 : ¬ (256 : Int) < (at_ : Int) := by omega
        have hb2 : ((at_ : Int) == 256) = false := by rw [beq_eq_false_iff_ne]; omega
        clear h1 hr hs ho hq hfd HNF
        generalize forkT at_ (kh k) k v (.leaf k' v') = R at *
        go_enter Tryd.func81, Tryd.ntmps81
        go_wp2_with fail
        refine (unhide HF).mono ?_
        rintro e w2 ⟨p2, rfl, h2⟩
        have HG : Hid (WithR S q (putT (kh k) at_ k v (.leaf k' v')) w (.returned (.pointer (some ⟨p2, 0, none⟩))) w2) := hide (by rw [unhide HP]; exact ⟨p2, rfl, h2⟩)
        clear h2
        go_wp2_with fail
        go_ret
        exact unhide HG
  | fork a hv l r ihl ihr =>
    intro m w S p q hn hr hs ho hS hq hqS hfd
    have hbit := lead_bit (kh k) hr hs
    have HNF := hide (fun (ha : at_ < a) => newFork_nd (a := at_) hn (hash_of_ok ho) hS hq hqS hk (by have := hr.2.1; omega) (by
      have h1 := ((fd_iff (kh (leadL (kh k) (.fork a hv l r)).1) (kh k) at_ (by have := hr.2.1; omega)).1 hfd.symm).2
      have h2 := lead_alike (kh k) (.fork a hv l r) m hr hs at_ ha
      exact fun e => h1 (h2.trans e.symm)))
    have hne : at_ ≠ a := fun e => by
      have h1 := ((fd_iff (kh (leadL (kh k) (.fork a hv l r)).1) (kh k) at_ (by have := hr.2.1; omega)).1 hfd.symm).2
      rw [e] at h1
      exact h1 hbit
    cases hn with
    | fork S Sl Sr p a hv l r pl pr h0 h1 h2 h3 h4 h5 h6 =>
      have x3 := h4.cell 3 rfl
      obtain ⟨r0, r1, r2, r3⟩ := hr
      by_cases hlt : a < at_
      · have X := hide h4
        have x4 := h4.cell 4 rfl
        have x5 := h4.cell 5 rfl
        have q2 := hq.cell 2 rfl
        have hlt' : (a : Int) < (at_ : Int) := by omega
        have HB := hide (fun wx => hashBit_any (kh k) a wx (kh_size hk) r1)
        have HS := hide (And.intro h0 (And.intro h1 (And.intro h2 (And.intro h3 (And.intro hS hqS)))))
        have HQ := hide hq
        have HN5 := hide h5
        have HN6 := hide h6
        obtain ⟨s0, s1, s2, s3, s4⟩ := hs
        obtain ⟨o0, o1, o2, o3⟩ := ho
        rcases bitN_01 (kh k) a with hb | hb
        · have HP : Hid (putT (kh k) at_ k v (.fork a hv l r) = .fork a hv (putT (kh k) at_ k v l) r) := hide (by conv => lhs; unfold putT; rw [if_pos hlt, if_pos hb])
          have hfl : at_ = fd (kh (leadL (kh k) l).1) (kh k) := by rw [hfd]; conv => lhs; unfold leadL; rw [if_pos hb]
          have HC : Hid (∀ wx, Below w.heap.size w wx → wx.heap.size = w.heap.size → Calls Tryd.prog 81 #[.pointer (some ⟨pl, 0, none⟩), .pointer (some ⟨q, 0, none⟩), .int .i64 at_] wx fun e w' => WithR Sl q (putT (kh k) at_ k v l) wx e w') := hide (fun wx hbx hsx => ihl _ wx Sl pl q ((unhide HN5).blw hbx) r2 s3 o2 (fun b hb => by rw [hsx]; exact hS b (h1 b hb).1) ((unhide HQ).below hbx) (fun e => hqS (h1 q e).1) hfl)
          rw [hb] at HB
          clear h1 h2 h3 h4 h5 h6 h0 hS hqS hq hbit HNF hne hfd hfl ihl ihr s0 s1 s2 s3 s4 o0 o1 o2 o3 r0 r2 r3
          generalize putT (kh k) at_ k v l = D at *
          generalize putT (kh k) at_ k v (.fork a hv l r) = R at *
          generalize kh k = hh at *
          go_enter Tryd.func81, Tryd.ntmps81
          go_wp2_with fail
          go_quiet ((go_at_call 80; exact Calls.quiet_of_same (unhide HB _)))
          have BD := hide (below_drewN (Below.refl w.heap.size w) nq)
          have X1 := (unhide X).below (unhide BD)
          have y4 := X1.cell 4 rfl
          have g4 := X1.fro 4
          have HX1 := hide X1
          have HE : Hid ((w.drewN nq).heap.size = w.heap.size) := rfl
          clear x3 x4 x5 q2 X1
          generalize w.drewN nq = w1 at *
          go_wp2_with fail
          go_region_law ((go_simp; go_at_call 81; refine (unhide HC _ (below_drewN (unhide BD) 1) (unhide HE)).mono ?_; rintro e w2 ⟨p2, rfl, hn2, hT2⟩; (have X2 := ((unhide HX1).drewN 1).kept hT2 (fun e => ((unhide HS).2.1 p e).2 rfl)); (have z4 := X2.cell 4 rfl); (have h4 := X2.fro 4); go_simp))
          all_goals
            have HG := hide (with_end0 (q := q) (below_drewN (unhide BD) 1) (unhide HE) (unhide HS).1 (unhide HS).2.1 (unhide HS).2.2.1 (unhide HS).2.2.2.1 (unhide HS).2.2.2.2.1 (unhide HS).2.2.2.2.2 ((unhide HX1).drewN 1) ((unhide HN6).blw (below_drewN (unhide BD) 1)) hn2 hT2)
            rw [← unhide HP] at HG
            clear hn2 hT2 X2 z4 h4
            go_wp2_with fail
            go_ret
            exact unhide HG
        · have HP : Hid (putT (kh k) at_ k v (.fork a hv l r) = .fork a hv l (putT (kh k) at_ k v r)) := hide (by conv => lhs; unfold putT; rw [if_pos hlt, if_neg (by omega)])
          have hfl : at_ = fd (kh (leadL (kh k) r).1) (kh k) := by rw [hfd]; conv => lhs; unfold leadL; rw [if_neg (by omega)]
          have HC : Hid (∀ wx, Below w.heap.size w wx → wx.heap.size = w.heap.size → Calls Tryd.prog 81 #[.pointer (some ⟨pr, 0, none⟩), .pointer (some ⟨q, 0, none⟩), .int .i64 at_] wx fun e w' => WithR Sr q (putT (kh k) at_ k v r) wx e w') := hide (fun wx hbx hsx => ihr _ wx Sr pr q ((unhide HN6).blw hbx) r3 s4 o3 (fun b hb => by rw [hsx]; exact hS b (h2 b hb).1) ((unhide HQ).below hbx) (fun e => hqS (h2 q e).1) hfl)
          rw [hb] at HB
          clear h1 h2 h3 h4 h5 h6 h0 hS hqS hq hbit HNF hne hfd hfl ihl ihr s0 s1 s2 s3 s4 o0 o1 o2 o3 r0 r2 r3
          generalize putT (kh k) at_ k v r = D at *
          generalize putT (kh k) at_ k v (.fork a hv l r) = R at *
          generalize kh k = hh at *
          go_enter Tryd.func81, Tryd.ntmps81
          go_wp2_with fail
          go_quiet ((go_at_call 80; exact Calls.quiet_of_same (unhide HB _)))
          have BD := hide (below_drewN (Below.refl w.heap.size w) nq)
          have X1 := (unhide X).below (unhide BD)
          have y5 := X1.cell 5 rfl
          have g5 := X1.fro 5
          have HX1 := hide X1
          have HE : Hid ((w.drewN nq).heap.size = w.heap.size) := rfl
          clear x3 x4 x5 q2 X1
          generalize w.drewN nq = w1 at *
          go_wp2_with fail
          go_region_law ((go_simp; go_at_call 81; refine (unhide HC _ (below_drewN (unhide BD) 1) (unhide HE)).mono ?_; rintro e w2 ⟨p2, rfl, hn2, hT2⟩; (have X2 := ((unhide HX1).drewN 1).kept hT2 (fun e => ((unhide HS).2.2.1 p e).2 rfl)); (have z4 := X2.cell 5 rfl); (have h4 := X2.fro 5); go_simp))
          all_goals
            have HG := hide (with_end1 (q := q) (below_drewN (unhide BD) 1) (unhide HE) (unhide HS).1 (unhide HS).2.1 (unhide HS).2.2.1 (unhide HS).2.2.2.1 (unhide HS).2.2.2.2.1 (unhide HS).2.2.2.2.2 ((unhide HX1).drewN 1) ((unhide HN5).blw (below_drewN (unhide BD) 1)) hn2 hT2)
            rw [← unhide HP] at HG
            clear hn2 hT2 X2 z4 h4
            go_wp2_with fail
            go_ret
            exact unhide HG
      · have HF := hide (unhide HNF (by omega))
        have HP : Hid (putT (kh k) at_ k v (.fork a hv l r) = forkT at_ (kh k) k v (.fork a hv l r)) := hide (by conv => lhs; unfold putT; rw [if_neg hlt])
        have hb1 : ¬ (a : Int) < (at_ : Int) := by omega
        have hb2 : ((at_ : Int) == 256) = false := by rw [beq_eq_false_iff_ne]; omega
        clear h1 h2 h3 h4 h5 h6 h0 hS hqS hq hbit HNF hne hfd ihl ihr hs ho r0 r2 r3
        generalize forkT at_ (kh k) k v (.fork a hv l r) = R at *
        go_enter Tryd.func81, Tryd.ntmps81
        go_wp2_with fail
        refine (unhide HF).mono ?_
        rintro e w2 ⟨p2, rfl, h2⟩
        have HG : Hid (WithR S q (putT (kh k) at_ k v (.fork a hv l r)) w (.returned (.pointer (some ⟨p2, 0, none⟩))) w2) := hide (by rw [unhide HP]; exact ⟨p2, rfl, h2⟩)
        clear h2
        go_wp2_with fail
        go_ret
        exact unhide HG
end Go.Proofs.YtgmaappilopgbaaDoor.Sha
namespace Go.Proofs.YtgmaappilopgbaaDoor.Sha
open Go.ChangeShapes Go.WideShapes Go.ChangeAt Go.RowKit
set_option linter.unusedVariables false
set_option linter.unusedSimpArgs false

theorem lvs_len : ∀ t : Tr, t.lvs.length = t.lvN
  | .leaf _ _ => rfl
  | .fork _ _ l r => by show (l.lvs ++ r.lvs).length = l.lvN + r.lvN; rw [List.length_append, lvs_len l, lvs_len r]
theorem fd_full {x y : ByteArray} (hx : x.size = 32) (hy : y.size = 32) (h : fd x y = 256) : x = y := by
  have hs : ∀ k, k ≤ 32 → ∀ j, j < k → byN x j = byN y j := by
    intro k
    induction k with
    | zero => intro _ j hj; omega
    | succ k ih =>
      intro hk j hj
      by_cases e : j = k
      · subst e
        by_cases hd : byN x j ^^^ byN y j = 0
        · exact Nat.eq_of_testBit_eq fun i => by
            have h1 := congrArg (fun n => n.testBit i) hd
            simp only [Nat.testBit_xor, Nat.zero_testBit] at h1
            generalize (byN x j).testBit i = b1 at *
            generalize (byN y j).testBit i = b2 at *
            cases b1 <;> cases b2 <;> simp_all
        · have h1 := fd_byte x y j (by omega) (ih (by omega)) hd
          have hlt : byN x j ^^^ byN y j < 256 := Nat.xor_lt_two_pow (n := 8) (byN_lt x j) (byN_lt y j)
          have h2 := (bl_bits ⟨byN x j ^^^ byN y j, hlt⟩ hd).1
          dsimp only at h2
          omega
      · exact ih (by omega) j (by omega)
  have hx2 : x.data.toList.length = 32 := by simpa using hx
  have hy2 : y.data.toList.length = 32 := by simpa using hy
  have : x.data.toList = y.data.toList := by
    apply List.ext_getElem?
    intro j
    by_cases hj : j < 32
    · have h1 := hs 32 (Nat.le_refl _) j hj
      unfold byN at h1
      have h2 := UInt8.toNat_inj.1 h1
      rw [List.getD_eq_getElem?_getD, List.getD_eq_getElem?_getD, List.getElem?_eq_getElem (by omega), List.getElem?_eq_getElem (by omega)] at h2
      rw [List.getElem?_eq_getElem (by omega), List.getElem?_eq_getElem (by omega)]
      simpa using h2
    · rw [List.getElem?_eq_none (by omega), List.getElem?_eq_none (by omega)]
  cases x; cases y
  simpa using congrArg List.toArray this
theorem fd_ne {x y : ByteArray} (hx : x.size = 32) (hy : y.size = 32) : fd x y < 256 ↔ x ≠ y := by
  have h := fd_le x y
  constructor
  · intro h1 e
    subst e
    have := fd_same x x (fun _ _ => rfl)
    omega
  · intro h1
    rcases Nat.lt_or_ge (fd x y) 256 with h2 | h2
    · exact h2
    · exact absurd (fd_full hx hy (by omega)) h1
def lvO : Option Tr → Nat
  | none => 0
  | some t => t.lvN
theorem sizeO_any {w : World} {S : Nat → Prop} {pv : Option Addr} {o : Option Tr} (hp : PtrM w S pv o) (hok : OkO o) (h40 : lvO o ≤ 1000) :
    Calls Tryd.prog 41 #[.pointer pv] w fun e w' => e = .returned (.int .i64 (lvO o)) ∧ Below w.heap.size w w' := by
  cases o with
  | none =>
    obtain rfl : pv = none := hp
    exact callsIn_wide.1 (size_in 3 (Nat.le_refl _) none w none rfl (by simp [LO.list]))
  | some t =>
    obtain ⟨p, rfl, hn⟩ := hp
    have := size_any hn hok (by rw [lvs_len]; exact h40)
    rw [lvs_len] at this
    exact this
/-- What a map is with a key's value put into it. -/
def putAt (t : Tr) (key : ByteArray) : Nat := fd (kh (leadL (kh key) t).1) (kh key)
def putO (o : Option Tr) (key val : ByteArray) : Tr := match o with
  | none => .leaf key val
  | some t => putT (kh key) (putAt t key) key val t
set_option maxRecDepth 100000 in
set_option maxHeartbeats 2000000 in
theorem put_any (key val : ByteArray) (hk : key.size ≤ 24) (w : World) (S : Nat → Prop) (pv : Option Addr) (q : Nat) (o : Option Tr) (hp : PtrM w S pv o) (hri : RiseO o) (hsp : SepO o) (hok : OkO o) (hS : ∀ b, S b → b < w.heap.size) (hq : Blk w q (lfC key val)) (hqS : ¬ S q) :
    Calls Tryd.prog 43 #[.pointer pv, .pointer (some ⟨q, 0, none⟩)] w fun e w' => WithR S q (putO o key val) w e w' := by
  cases o with
  | none =>
    obtain rfl : pv = none := hp
    have HR : Hid (WithR S q (putO none key val) w (.returned (.pointer (some ⟨q, 0, none⟩))) w) := hide ⟨q, rfl, Nd.leaf _ q key val (.inr (.inl rfl)) hq, Touch.refl _ _⟩
    clear hq hqS hS
    go_enter Tryd.func43, Tryd.ntmps43
    go_wp2_with fail
    go_ret
    exact unhide HR
  | some t =>
    obtain ⟨p, rfl, hn⟩ := hp
    have hkk := kh_size (k := key) (by omega)
    have hlo := lead_ok (kh key) t hok
    have hlk := kh_size (k := (leadL (kh key) t).1) (by have := (okK_iff.1 hlo.1).2; omega)
    have HLD := hide (fun wx (hbx : Below w.heap.size w wx) => lead_any (kh key) hkk wx _ p t (hn.blw hbx) hri)
    have HFD := hide (fun wx => firstDiff_any (kh (leadL (kh key) t).1) (kh key) wx hlk hkk)
    have HWI := hide (fun n => with_any key val (fd (kh (leadL (kh key) t).1) (kh key)) (fd_le _ _) (by omega) t 0 (w.drewN n) S p q (hn.blw (below_drewN (Below.refl _ _) n)) hri hsp.1 hok hS (hq.drewN n) hqS rfl)
    have HPO : Hid (putO (some t) key val = putT (kh key) (fd (kh (leadL (kh key) t).1) (kh key)) key val t) := rfl
    rw [unhide HPO]
    have q2 : w.cell? ⟨q, 2, none⟩ = some (.string (kh key)) := hq.cell 2 rfl
    generalize hlh : kh (leadL (kh key) t).1 = lh at *
    have HLH := hide hlh
    clear hlh
    generalize fd lh (kh key) = A at *
    generalize putT (kh key) A key val t = D at *
    generalize kh key = hh at *
    clear hlo hlk hkk hn hq hS hqS HPO
    go_enter Tryd.func43, Tryd.ntmps43
    go_wp2_with fail
    go_region_law (first
      | (go_simp; go_at_call 81; refine (unhide HWI _).mono ?_; rintro e w7 ⟨p7, rfl, hn7, hT7⟩; go_simp)
      | (go_simp; go_at_call 82; refine (unhide HFD _).mono ?_; rintro e w6 ⟨rfl, n6, rfl⟩; go_simp)
      | (go_simp; go_at_call 42; refine (unhide HLD _ (below_drewN (Below.refl _ _) 1)).mono ?_; rintro e w5 ⟨ql, rfl, hB5, n5, rfl⟩; (have cl : w.cell? ⟨ql, 2, none⟩ = some (.string lh) := (by have h := hB5.cell 2 rfl; rw [unhide HLH] at h; exact h)); go_simp))
    all_goals
      have HN7 := hide (And.intro hn7 hT7)
      clear hn7 hT7
      go_wp2_with fail
      go_ret
      refine ⟨_, rfl, ?_, (Touch.ofBelow (below_drewN (Below.refl _ _) _)).trans (unhide HN7).2 (fun _ _ h => h)⟩
      exact (unhide HN7).1
end Go.Proofs.YtgmaappilopgbaaDoor.Sha
namespace Go.Proofs.YtgmaappilopgbaaDoor.Sha
open Go.ChangeShapes Go.WideShapes Go.ChangeAt Go.RowKit
set_option linter.unusedVariables false
set_option linter.unusedSimpArgs false

/-- From node p the bits of h lead to the leaf q. -/
inductive LdQ (w : World) (h : ByteArray) : Nat → Tr → Nat → Prop
  | leaf (p : Nat) (k v : ByteArray) : LdQ w h p (.leaf k v) p
  | fork (p a : Nat) (hv : ByteArray) (l r : Tr) (pl pr q : Nat) : Blk w p (fkC hv a pl pr) → (bitN h a = 0 → LdQ w h pl l q) → (bitN h a = 1 → LdQ w h pr r q) → LdQ w h p (.fork a hv l r) q
theorem LdQ.blw {w w' : World} {h : ByteArray} {p q : Nat} {t : Tr} (hl : LdQ w h p t q) (hb : Below w.heap.size w w') : LdQ w' h p t q := by
  induction hl with
  | leaf p k v => exact .leaf p k v
  | fork p a hv l r pl pr q h1 h2 h3 i2 i3 => exact .fork p a hv l r pl pr q (h1.below hb) i2 i3
theorem LdQ.down {w : World} {h : ByteArray} {p a q pl pr : Nat} {hv : ByteArray} {l r : Tr} (hl : LdQ w h p (.fork a hv l r) q) (hb : Blk w p (fkC hv a pl pr)) : (bitN h a = 0 → LdQ w h pl l q) ∧ (bitN h a = 1 → LdQ w h pr r q) := by
  cases hl with
  | fork p a hv l r pl2 pr2 q h1 h2 h3 =>
    have e4 := (h1.cell 4 rfl).symm.trans (hb.cell 4 rfl)
    have e5 := (h1.cell 5 rfl).symm.trans (hb.cell 5 rfl)
    simp only [Option.some.injEq, Value.pointer.injEq, Addr.mk.injEq] at e4 e5
    obtain rfl := e4.1
    obtain rfl := e5.1
    exact ⟨h2, h3⟩
theorem ldq_of {w : World} {S : Nat → Prop} {p : Nat} {t : Tr} (h : ByteArray) (hn : Nd w S p t) : ∃ q, LdQ w h p t q ∧ Blk w q (lfC (leadL h t).1 (leadL h t).2) := by
  induction hn with
  | leaf S p k v h0 h1 => exact ⟨p, .leaf p k v, h1⟩
  | fork S Sl Sr p a hv l r pl pr h0 h1 h2 h3 h4 h5 h6 i5 i6 =>
    rcases bitN_01 h a with hb | hb
    · obtain ⟨q, q1, q2⟩ := i5
      refine ⟨q, .fork p a hv l r pl pr q h4 (fun _ => q1) (fun e => by omega), ?_⟩
      have e : leadL h (.fork a hv l r) = leadL h l := by show (if bitN h a = 0 then _ else _) = _; rw [if_pos hb]
      rw [e]; exact q2
    · obtain ⟨q, q1, q2⟩ := i6
      refine ⟨q, .fork p a hv l r pl pr q h4 (fun e => by omega) (fun _ => q1), ?_⟩
      have e : leadL h (.fork a hv l r) = leadL h r := by show (if bitN h a = 0 then _ else _) = _; rw [if_neg (by omega)]
      rw [e]; exact q2
set_option maxRecDepth 100000 in
set_option maxHeartbeats 2000000 in
theorem leadQ_any (h : ByteArray) (hh : h.size = 32) (w : World) (S : Nat → Prop) (p q : Nat) (t : Tr) (hn : Nd w S p t) (hr : Rise 0 t) (hq : LdQ w h p t q) :
    Calls Tryd.prog 42 #[.pointer (some ⟨p, 0, none⟩), .string h] w fun e w' => e = .returned (.pointer (some ⟨q, 0, none⟩)) ∧ ∃ n, w' = w.drewN n := by
  have HN := hide hn
  have HR := hide hr
  have HQ := hide hq
  clear hn hr hq
  go_enter Tryd.func42, Tryd.ntmps42
  go_wp2_with fail
  go_loopw [0] (fun nv wr => ∃ (p' m : Nat) (t' : Tr) (S' : Nat → Prop), nv = .pointer (some ⟨p', 0, none⟩) ∧ Nd wr S' p' t' ∧ Rise m t' ∧ LdQ wr h p' t' q ∧ ∃ n, wr = w.drewN n) (fun nv wr => 256 - atCell nv wr)
  case atStart => exact ⟨p, 0, t, S, rfl, unhide HN, unhide HR, unhide HQ, 0, rfl⟩
  case round =>
    clear HN HR HQ
    obtain ⟨p', m, t', S', rfl, hn, hr, hl, n, hw⟩ := hrel
    have HW := hide hw
    have HL := hide hl
    have HA := hide (atCell_is hn.atC)
    clear hw hl
    cases hn with
    | leaf S' p' k v h0 h1 =>
      have x3 := h1.cell 3 rfl
      have X := hide h1
      clear h1 hr HA
      go_wp2_with fail
      go_ret
      have h9 : p' = q := by cases unhide HL with | leaf => rfl
      subst h9
      exact ⟨rfl, n, unhide HW⟩
    | fork S' Sl Sr p' a hv l r pl pr h0 h1 h2 h3 h4 h5 h6 =>
      obtain ⟨r0, r1, r2, r3⟩ := hr
      have x3 := h4.cell 3 rfl
      have x4 := h4.cell 4 rfl
      have x5 := h4.cell 5 rfl
      have HB := hide (fun wx => hashBit_any h a wx hh r1)
      have ha : (a : Int) < 256 := by omega
      have HE : Hid ((bitN h a = 0 → LdQ wr h pl l q) ∧ (bitN h a = 1 → LdQ wr h pr r q)) := hide (unhide HL |>.down h4)
      have HN5 := hide h5
      have HN6 := hide h6
      clear h1 h2 h3 h4 h5 h6 h0
      rcases bitN_01 h a with hb | hb
      · rw [hb] at HB
        have HE2 := hide ((unhide HE).1 hb)
        clear HE
        go_wp2_with fail
        go_quiet (first | (go_at_call 80; exact Calls.quiet_of_same (unhide HB _)))
        have N2 := hide ((unhide HN5).blw (below_drewN (Below.refl _ wr) nq))
        have HW2 : Hid (∃ n', wr.drewN nq = w.drewN n') := hide ⟨n + nq, by rw [unhide HW, World.drewN_drewN]⟩
        have HE3 := hide ((unhide HE2).blw (below_drewN (Below.refl _ wr) nq))
        clear HE2
        generalize wr.drewN nq = w2 at *
        go_wp2_with fail
        have hat := atCell_is (unhide N2).atC
        have hle := r2.le
        have hle2 := r2.le256
        have hA := unhide HA
        refine ⟨⟨pl, a + 1, l, Sl, rfl, unhide N2, r2, ?_, unhide HW2⟩, ?_⟩
        · exact unhide HE3
        · rw [hat, hA]; show 256 - l.at_ < 256 - a; omega
      · rw [hb] at HB
        have HE2 := hide ((unhide HE).2 hb)
        clear HE
        go_wp2_with fail
        go_quiet (first | (go_at_call 80; exact Calls.quiet_of_same (unhide HB _)))
        have N2 := hide ((unhide HN6).blw (below_drewN (Below.refl _ wr) nq))
        have HW2 : Hid (∃ n', wr.drewN nq = w.drewN n') := hide ⟨n + nq, by rw [unhide HW, World.drewN_drewN]⟩
        have HE3 := hide ((unhide HE2).blw (below_drewN (Below.refl _ wr) nq))
        clear HE2
        generalize wr.drewN nq = w2 at *
        go_wp2_with fail
        have hat := atCell_is (unhide N2).atC
        have hle := r3.le
        have hle2 := r3.le256
        have hA := unhide HA
        refine ⟨⟨pr, a + 1, r, Sr, rfl, unhide N2, r3, ?_, unhide HW2⟩, ?_⟩
        · exact unhide HE3
        · rw [hat, hA]; show 256 - r.at_ < 256 - a; omega
end Go.Proofs.YtgmaappilopgbaaDoor.Sha
namespace Go.Proofs.YtgmaappilopgbaaDoor.Sha
open Go.ChangeShapes Go.WideShapes Go.ChangeAt Go.RowKit
set_option linter.unusedVariables false

def mxI (a b : Int) : Int := if a < b then b else a
set_option maxRecDepth 100000 in
theorem worst1_any (a b : Int) (w : World) :
    Calls Tryd.prog 77 #[.int .i64 a, .int .i64 b] w fun e w' => e = .returned (.int .i64 (mxI a b)) ∧ w' = w := by
  by_cases h : a < b
  · have H : Hid (mxI a b = b) := hide (if_pos h)
    go_enter Tryd.func77, Tryd.ntmps77
    go_wp2_with fail
    go_ret
    exact ⟨ret_int (unhide H).symm, rfl⟩
  · have H : Hid (mxI a b = a) := hide (if_neg h)
    go_enter Tryd.func77, Tryd.ntmps77
    go_wp2_with fail
    go_ret
    exact ⟨ret_int (unhide H).symm, rfl⟩
/-- The greatest of the first k. -/
def mxTo (l : List Int) : Nat → Int
  | 0 => 0
  | k + 1 => mxI (mxTo l k) (l.getD k 0)
set_option maxRecDepth 100000 in
set_option maxHeartbeats 1000000 in
theorem foldInt_any (l : List Int) (b cap : Nat) (w : World) (hl : l.length ≤ 1000) (hc : ∀ i, i < l.length → w.cell? ⟨b, i, none⟩ = some (.int .i64 (l.getD i 0))) :
    Calls Tryd.prog 76 #[.slice (some ⟨b, 0, none⟩) l.length cap, .int .i64 0, .func (.func 77) #[] #[]] w fun e w' => e = .returned (.int .i64 (mxTo l l.length)) ∧ w' = w := by
  have HC := hide hc
  clear hc
  go_enter Tryd.func76, Tryd.ntmps76
  go_wp2_with fail
  go_loop [1, 11] (fun v i => ∃ k : Nat, k ≤ l.length ∧ i = .int .i64 k ∧ v = .int .i64 (mxTo l k)) (fun _ i => l.length - (intOf i).toNat)
  case atStart => exact ⟨0, Nat.zero_le _, rfl, rfl⟩
  case round =>
    obtain ⟨k, hk, rfl, rfl⟩ := hrel
    by_cases hlt : k < l.length
    · have c0 := unhide HC k hlt
      have hk0 : (0 : Int) ≤ (k : Int) := by omega
      have hk1 : (k : Int) < (l.length : Int) := by omega
      have HW := hide (worst1_any (mxTo l k) (l.getD k 0) w)
      have HE : Hid (mxTo l (k + 1) = mxI (mxTo l k) (l.getD k 0)) := rfl
      generalize mxTo l k = x at *
      generalize l.getD k 0 = y at *
      generalize mxI x y = z at *
      go_wp2_with fail
      refine (unhide HW).mono ?_
      rintro e w' ⟨rfl, rfl⟩
      go_wp2_with fail
      refine ⟨⟨k + 1, by omega, by go_num, by rw [unhide HE]⟩, ?_⟩
      simp [intOf]; omega
    · obtain rfl : k = l.length := by omega
      go_wp2_with fail
      go_ret
      exact ⟨rfl, rfl⟩
set_option maxRecDepth 100000 in
theorem worst_any (c1 c2 : Int) (b : Nat) (w : World) (h0 : 0 ≤ c1) (h1 : 0 ≤ c2) (k0 : w.cell? ⟨b, 0, none⟩ = some (.int .i64 c1)) (k1 : w.cell? ⟨b, 1, none⟩ = some (.int .i64 c2)) :
    Calls Tryd.prog 38 #[.slice (some ⟨b, 0, none⟩) 2 2] w fun e w' => e = .returned (.int .i64 (mxI c1 c2)) ∧ w' = w := by
  have HF := hide (foldInt_any [c1, c2] b 2 w (by simp) (fun i hi => by
    match i, hi with
    | 0, _ => exact k0
    | 1, _ => exact k1))
  have HE : Hid (mxTo [c1, c2] [c1, c2].length = mxI c1 c2) := hide (by
    show mxI (mxI 0 c1) c2 = mxI c1 c2
    have : mxI 0 c1 = c1 := by unfold mxI; split <;> omega
    rw [this])
  clear k0 k1
  go_enter Tryd.func38, Tryd.ntmps38
  go_wp2_with fail
  refine (unhide HF).mono ?_
  rintro e w' ⟨rfl, rfl⟩
  rw [unhide HE]
  go_wp2_with fail
  go_ret
  exact ⟨rfl, rfl⟩
end Go.Proofs.YtgmaappilopgbaaDoor.Sha
namespace Go.Proofs.YtgmaappilopgbaaDoor.Sha
open Go.ChangeShapes Go.WideShapes Go.ChangeAt Go.RowKit
set_option linter.unusedVariables false
set_option linter.unusedSimpArgs false

/-- The hash of the leaf that a key's hash leads to. -/
def leadH (o : Option Tr) (key : ByteArray) : ByteArray := match o with
  | none => ⟨#[]⟩
  | some t => kh (leadL (kh key) t).1
def fullB (o : Option Tr) (key : ByteArray) : Bool := decide (lvO o = 40) && decide (leadH o key ≠ kh key)
/-- What MapPut answers of a map. -/
def mpO (o : Option Tr) (key val : ByteArray) : Br × Int := match o with
  | none => (brOf (some (.leaf key val)), 0)
  | some t => if putAt t key < 256 ∧ t.lvN = 40 then (brOf none, 7) else (brOf (some (putT (kh key) (putAt t key) key val t)), 0)
def opC (b : Br) (key : ByteArray) : Int := if txC key.size 1 24 = 0 then (match mapV b with | none => 1 | some _ => 0) else txC key.size 1 24
def mpOut (b : Br) (key val : ByteArray) : Br × Int := if mxI (opC b key) (txC val.size 0 60) = 0 then (match mapV b with
    | none => (brOf none, 0)
    | some o => mpO o key val)
  else (brOf none, mxI (opC b key) (txC val.size 0 60))
theorem mxI_zero {a b : Int} (h0 : 0 ≤ a) (h1 : 0 ≤ b) (h : mxI a b = 0) : a = 0 ∧ b = 0 := by unfold mxI at h; split at h <;> omega
theorem txC_lo (n : Nat) (lo hi : Int) : 0 ≤ txC n lo hi := by rcases txC_cases n lo hi with h | h | h <;> omega
theorem txC_val {n : Nat} (h : txC n 0 60 = 0) : n ≤ 60 := by
  unfold txC at h
  split at h
  · omega
  · split at h
    · rename_i h2; have := inB_iff.1 h2; omega
    · omega
set_option maxRecDepth 100000 in
set_option maxHeartbeats 4000000 in
theorem implMapPut_any (k v : ByteArray) (a : Int) (ks : List Br) (key val : ByteArray) (S : Nat → Prop) (kv : Value) (w : World) (hB : Brs S w kv ks) (hk : k.size ≤ maxLen) (hv : v.size ≤ maxLen) (hky : key.size ≤ 1048576) (hvl : val.size ≤ 1048576) (ht : Tab w) :
    Calls Tryd.prog 11 #[.agg #[.string k, .string v, .int .i64 a, kv], .string key, .string val] w fun e w' => ∃ u, e = .returned (.tuple #[u, .int .i64 (mpOut (.mk k v a ks) key val).2]) ∧ BrV w.heap.size w' u (mpOut (.mk k v a ks) key val).1 ∧ Below w.heap.size w w' := by
  obtain ⟨sa, cap, rfl, hcap, hcm⟩ := hB.shape
  have B0 := hide ((Below.refl w.heap.size w).alloc (Nat.le_refl _) (.cells #[.string k, .string v, .int .i64 a, .slice sa ks.length cap] 28))
  have R0 := hide (Blk.new (w.alloc (.cells #[.string k, .string v, .int .i64 a, .slice sa ks.length cap] 28)) #[.string ⟨#[]⟩, .string ⟨#[]⟩, .int .i64 0, .slice none 0 0] 28 (w.heap.size + 1) (by simp))
  have B1 := hide ((unhide B0).alloc (unhide B0).size (.cells #[.string ⟨#[]⟩, .string ⟨#[]⟩, .int .i64 0, .slice none 0 0] 28))
  have HR := hide (openMap_any k v a ks key S _ _ ((hB.blw (unhide B0)).blw ((Below.refl _ _).alloc (Nat.le_refl _) (.cells #[.string ⟨#[]⟩, .string ⟨#[]⟩, .int .i64 0, .slice none 0 0] 28))) hk hv hky (ht.below (unhide B1)))
  have HT := hide ht
  have HRI := hide (fun o => mapV_rise (b := .mk k v a ks) (o := o))
  have HBR := hide (fun o => mapV_br (b := .mk k v a ks) (o := o))
  have HSE := hide (fun o => mapV_sep (b := .mk k v a ks) (o := o))
  have HSZ := hide (show w.heap.size ≤ w.heap.size + 1 by omega)
  have HTX := hide (fun wx => textFault_any val 0 60 wx (by unfold maxLen; omega))
  have hvc0 := txC_lo val.size 0 60
  have HVC := hide (fun (h : txC val.size 0 60 = 0) => txC_val h)
  have HKC := hide (fun (h : txC key.size 1 24 = 0) => txC_key h)
  have HOD : Hid (mpOut (.mk k v a ks) key val = if mxI (opC (.mk k v a ks) key) (txC val.size 0 60) = 0 then (match mapV (.mk k v a ks) with | none => (brOf none, 0) | some o => mpO o key val) else (brOf none, mxI (opC (.mk k v a ks) key) (txC val.size 0 60))) := rfl
  generalize txC val.size 0 60 = vc at *
  clear hB ht hk hv B0
  go_enter Tryd.func11, Tryd.ntmps11
  go_wp2_with fail
  generalize (w.alloc (.cells #[.string k, .string v, .int .i64 a, .slice sa ks.length cap] 28)).alloc (.cells #[.string ⟨#[]⟩, .string ⟨#[]⟩, .int .i64 0, .slice none 0 0] 28) = w1 at *
  generalize w.heap.size + 1 = rb at *
  refine (unhide HR).mono ?_
  rintro e w2 ⟨pv, c, rfl, hb, hcs⟩
  have B2 := hide ((unhide B1).trans (hb.mono (unhide B1).size))
  have R2 := hide ((unhide R0).below hb)
  have S1 := hide (And.intro (unhide R0).1 (And.intro (unhide B1).size hb.size))
  have hoc : opC (.mk k v a ks) key = c ∧ 0 ≤ c := by
    rcases hcs with ⟨h1, h2, h3⟩ | ⟨h1, h2, h3, h4⟩ | ⟨h1, h2, o, h3, h4⟩
    · exact ⟨by unfold opC; rw [if_neg h1, h2], by rw [h2]; exact txC_lo _ _ _⟩
    · exact ⟨by unfold opC; rw [if_pos h1, h2, h3], by omega⟩
    · exact ⟨by unfold opC; rw [if_pos h1, h3, h2], by omega⟩
  rw [hoc.1] at HOD
  have hc0 := hoc.2
  have HCS := hide hcs
  have HWS := hide (fun b wx h0 h1 => worst_any c vc b wx hc0 hvc0 h0 h1)
  have HMZ := hide (fun h => mxI_zero hc0 hvc0 h)
  generalize mxI c vc = mx at *
  clear hb HR R0 B1 hcs hoc
  go_wp2_with fail
  refine (unhide HTX _).mono ?_
  rintro e w9 ⟨rfl, hw9⟩
  subst w9
  have N2 := Blk.new w2 #[.int .i64 c, .int .i64 vc] 3 w2.heap.size rfl
  have BA := (Below.refl w2.heap.size w2).alloc (Nat.le_refl _) (.cells #[.int .i64 c, .int .i64 vc] 3)
  have B3 := hide ((unhide B2).trans (BA.mono (unhide B2).size))
  have R3 := hide ((unhide R2).below BA)
  have HW := hide (unhide HWS w2.heap.size (w2.alloc (.cells #[.int .i64 c, .int .i64 vc] 3)) (N2.cell 0 rfl) (N2.cell 1 rfl))
  have BA2 := hide BA
  clear N2 BA HWS
  go_wp2_with fail
  refine (unhide HW).mono ?_
  rintro e w9 ⟨rfl, hw9⟩
  subst w9
  generalize w2.alloc (.cells #[.int .i64 c, .int .i64 vc] 3) = w3 at *
  by_cases hmx : mx = 0
  · obtain ⟨hcz, hvz⟩ := unhide HMZ hmx
    have hval := unhide HVC hvz
    obtain ⟨hkt, o, hmo, hptr⟩ : txC key.size 1 24 = 0 ∧ ∃ o, mapV (.mk k v a ks) = some o ∧ PtrM w2 (fun x => w1.heap.size ≤ x ∧ x < w2.heap.size) pv o := by
      rcases unhide HCS with ⟨h1, h2, h3⟩ | ⟨h1, h2, h3, h4⟩ | ⟨h1, h2, o, h3, h4⟩
      · exact absurd (h2.symm.trans hcz) h1
      · omega
      · exact ⟨h1, o, h3, h4⟩
    have hkey := unhide HKC hkt
    have HO : Hid (mpOut (.mk k v a ks) key val = mpO o key val) := hide (by rw [unhide HOD, if_pos hmx, hmo])
    have HRO := hide (unhide HRI o hmo)
    have HOK := hide (unhide HBR o hmo).2
    have HSP := hide (unhide HSE o hmo)
    have P3 := hide (hptr.blw (unhide BA2))
    have HNL := hide (newLeaf_any key val w3 (by omega) ((unhide HT).below (unhide B3)))
    have HKV := hide (show TrOK (.leaf key val) from ⟨okK_iff.2 hkey, hval⟩)
    have hsz23 := (unhide BA2).size
    have HS23 := hide (And.intro (unhide S1).2.1 (And.intro (unhide S1).1 hsz23))
    clear HCS HOD HMZ HRI HBR HSE HVC HKC hptr hmo hsz23 HW HTX BA2 B2 R2
    subst hmx hcz hvz
    go_wp2_with fail
    refine (unhide HNL).mono ?_
    rintro e w4 ⟨q, rfl, hq0, hqB, hb4⟩
    have B4 := hide ((unhide B3).trans (hb4.mono (unhide B3).size))
    have R4 := hide ((unhide R3).below hb4)
    have P4 := hide ((unhide P3).blw hb4)
    have QB := hide hqB
    have Q0 := hide (And.intro hq0 hb4.size)
    clear hb4 hqB hq0 HNL B3 R3 P3
    have hkk := kh_size (k := key) (by omega)
    have h40 : lvO o ≤ 40 := by cases o with | none => exact Nat.zero_le _ | some t => exact (unhide HSP).2
    have HSI := hide (fun (x : Wb w4) => sizeO_any ((unhide P4).blw x.below) (unhide HOK) (by omega))
    have HPT := hide (fun wx (hbx : Below w4.heap.size w4 wx) => put_any key val (by omega) wx _ pv q o ((unhide P4).blw hbx) (unhide HRO) (unhide HSP) (unhide HOK) (fun b hb => by have := hbx.size; have := (unhide Q0).2; have := (unhide HS23).2.2; omega) ((unhide QB).below hbx) (fun e => by have := (unhide Q0).1; have := (unhide HS23).2.2; omega))
    have HPO : Hid (TrOK (putO o key val)) := hide (by
      cases o with
      | none => exact unhide HKV
      | some t => exact putT_ok (kh key) (putAt t key) key val (fd_le _ _) hkk (unhide HKV).1 (unhide HKV).2 t (unhide HOK))
    have HOA : Hid (mpOut (.mk k v a ks) key val = if fullB o key = true then (brOf none, 7) else ((putO o key val).toBr, 0)) := hide (by
      rw [unhide HO]
      cases o with
      | none => rfl
      | some t =>
        have hlo := lead_ok (kh key) t (unhide HOK)
        have hlk := kh_size (k := (leadL (kh key) t).1) (by have := (okK_iff.1 hlo.1).2; omega)
        show (if putAt t key < 256 ∧ t.lvN = 40 then _ else _) = _
        by_cases hc : putAt t key < 256 ∧ t.lvN = 40
        · rw [if_pos hc, if_pos (by unfold fullB; rw [decide_eq_true (show lvO (some t) = 40 from hc.2), decide_eq_true (show leadH (some t) key ≠ kh key from (fd_ne hlk hkk).1 hc.1)]; rfl)]
        · rw [if_neg hc, if_neg (fun hx => by unfold fullB at hx; rw [Bool.and_eq_true] at hx; exact hc ⟨(fd_ne hlk hkk).2 (of_decide_eq_true hx.2), of_decide_eq_true hx.1⟩)]; rfl)
    have HFB : Hid (fullB o key = (decide (lvO o = 40) && decide (leadH o key ≠ kh key))) := rfl
    have HLD : Hid (∀ t p ql, o = some t → pv = some ⟨p, 0, none⟩ → Nd w4 (fun x => w1.heap.size ≤ x ∧ x < w2.heap.size) p t → LdQ w4 (kh key) p t ql → ∀ x : Wb w4, Calls Tryd.prog 42 #[.pointer (some ⟨p, 0, none⟩), .string (kh key)] x.at_ fun e w' => e = .returned (.pointer (some ⟨ql, 0, none⟩)) ∧ ∃ n, w' = x.at_.drewN n) := hide (fun t p ql ho hpv hn hl x => by
      subst ho
      exact leadQ_any (kh key) hkk x.at_ _ p ql t (hn.blw x.below) (unhide HRO) (hl.blw x.below))
    have HLQ : Hid (∀ t, o = some t → ∀ p, Nd w4 (fun x => w1.heap.size ≤ x ∧ x < w2.heap.size) p t → ∃ q, LdQ w4 (kh key) p t q ∧ Blk w4 q (lfC (leadL (kh key) t).1 (leadL (kh key) t).2)) := hide (fun t _ p hn => ldq_of (kh key) hn)
    have HQL := hide (unhide QB).1
    have HQ2 := hide (fun wx (hbx : Below w4.heap.size w4 wx) => ((unhide QB).below hbx).cell 2 rfl)
    have HLT : Hid (∀ t, o = some t → leadH o key = kh (leadL (kh key) t).1) := hide (fun t ht => by subst ht; rfl)
    generalize putO o key val = D at *
    generalize fullB o key = fb at *
    generalize leadH o key = lh at *
    generalize kh key = hh at *
    clear hkk HO h40 QB
    go_upto_region 6 with fail
    go_cut [47] (fun s wx => s = .bool fb ∧ Below w4.heap.size w4 wx)
    case first =>
      by_cases hsz : lvO o = 40
      · cases o with
        | none => exact absurd hsz (by decide)
        | some t =>
          obtain ⟨p, rfl, hn⟩ := unhide P4
          obtain ⟨ql, hld, hqb⟩ := unhide HLQ t rfl p hn
          have HLDt := hide (fun (x : Wb w4) => unhide HLD t p ql rfl rfl hn hld x)
          have HLt := unhide HLT t rfl
          have HSI2 := hide (fun (x : Wb w4) => unhide HSI x)
          rw [hsz] at HSI2
          have cl := Wb.cell (hqb.cell 2 rfl) hqb.1
          rw [← HLt] at cl
          have q2 := Wb.cell (unhide HQ2 w4 (Below.refl _ _)) (unhide HQL)
          have HF2 : fb = decide (lh ≠ hh) := by rw [unhide HFB, hsz]; simp
          clear hn hsz HSI HLD HLT HFB P4 HOA HPT HPO HLt hqb hld HLQ HQ2
          by_cases he : lh = hh
          · obtain rfl : fb = false := by rw [HF2]; simp [he]
            have he2 := list_eq he
            subst he
            clear HF2
            go_wp2_with fail
            refine wp_region_wb (by kernel_rfl) (by kernel_rfl) ?_
            repeat (go_big_quiet_step (first | (go_at_call 41; exact wb_of (unhide HSI2 _)) | (go_at_call 42; exact wb_drew (unhide HLDt _))))
            refine wpQuiet_nil ?_
            intro _ hw'
            obtain ⟨⟨w5, hb5⟩, rfl⟩ := hw'
            go_wp2_with fail
            go_meet
            exact ⟨by first | rfl | simp, hb5⟩
          · obtain rfl : fb = true := by rw [HF2]; simp [he]
            have he2 := list_ne he
            clear HF2
            go_wp2_with fail
            refine wp_region_wb (by kernel_rfl) (by kernel_rfl) ?_
            repeat (go_big_quiet_step (first | (go_at_call 41; exact wb_of (unhide HSI2 _)) | (go_at_call 42; exact wb_drew (unhide HLDt _))))
            refine wpQuiet_nil ?_
            intro _ hw'
            obtain ⟨⟨w5, hb5⟩, rfl⟩ := hw'
            go_wp2_with fail
            go_meet
            exact ⟨by first | rfl | simp, hb5⟩
      · have hsz2 : ¬ (lvO o : Int) = 40 := by omega
        have hsz3 : ((lvO o : Int) == 40) = false := by rw [beq_eq_false_iff_ne]; exact hsz2
        have hsz4 : decide ((lvO o : Int) = 40) = false := by rw [decide_eq_false_iff_not]; exact hsz2
        obtain rfl : fb = false := by rw [unhide HFB, decide_eq_false hsz]; rfl
        clear HFB HLD HLT HOA HPT HPO P4 HLQ
        generalize lvO o = sz at *
        go_wp2_with fail
        refine wp_region_wb (by kernel_rfl) (by kernel_rfl) ?_
        repeat (go_big_quiet_step ((go_at_call 41; exact wb_of (unhide HSI _))))
        refine wpQuiet_nil ?_
        intro _ hw'
        obtain ⟨⟨w5, hb5⟩, rfl⟩ := hw'
        go_wp2_with fail
        go_meet
        exact ⟨rfl, hb5⟩
    case rest =>
      obtain ⟨rfl, hbc⟩ := hcut
      have HBX := hide hbc
      have B6 := hide ((unhide B4).trans (hbc.mono (unhide B4).size))
      have R6 := hide ((unhide R4).below hbc)
      clear hbc B4 R4 HLD HLT HFB HSI HQ2 HLQ
      cases fb with
      | true =>
        have HO7 : Hid (mpOut (.mk k v a ks) key val = (brOf none, 7)) := unhide HOA
        clear HOA HPT
        have R5 := R6
        have hE := end4b (b := brOf none) (m := rb + 1) (unhide R6) (unhide B6) (BrO.nil (fun x => rb + 1 ≤ x ∧ x < _) none 0 (by unfold maxLen; omega)) (unhide HSZ) (Nat.lt_succ_self _)
        have r0 := (unhide R5).cell 0 rfl
        have r1 := (unhide R5).cell 1 rfl
        have r2 := (unhide R5).cell 2 rfl
        have r3 := (unhide R5).cell 3 rfl
        have f0 := (unhide R5).fro 0
        have f1 := (unhide R5).fro 1
        have f2 := (unhide R5).fro 2
        have f3 := (unhide R5).fro 3
        have z0 := hE.1.cell 0 rfl
        have z1 := hE.1.cell 1 rfl
        have z2 := hE.1.cell 2 rfl
        have z3 := hE.1.cell 3 rfl
        have HE := hide hE
        unfold set4 at z0 z1 z2 z3
        dsimp only [brOf, Br.key, Br.val, Br.at_] at z0 z1 z2 z3
        clear hE
        go_wp2_with fail
        refine bodyPost_ret (v := .tuple #[.agg #[.string ⟨#[]⟩, .string ⟨#[]⟩, .int .i64 0, .slice none 0 0], .int .i64 7]) (by simp [results, Tryd.results11, go_sem, z0, z1, z2, z3]) rfl ?_
        exact ⟨_, by rw [unhide HO7], by rw [unhide HO7]; exact (unhide HE).2.1, (unhide HE).2.2⟩
      | false =>
        have HO0 : Hid (mpOut (.mk k v a ks) key val = (D.toBr, 0)) := unhide HOA
        clear HOA
        go_wp2_with fail
        refine (unhide HPT _ (unhide HBX)).mono ?_
        rintro e w7 ⟨p7, rfl, hn7, hT7⟩
        have B7 := hide ((unhide B6).trans (hT7.below (B := w.heap.size) (unhide B6).size (fun b hb e => by have := (unhide HS23).1; omega)))
        have R7 := hide ((unhide R6).kept hT7 (fun e => by have := (unhide HS23).2.1; omega))
        have HBC := hide (branch_any hn7 (unhide HPO) w7 (Below.refl _ _))
        clear hn7 hT7 B6 R6
        go_wp2_with fail
        refine (unhide HBC).mono ?_
        rintro e w8 ⟨sa5, n5, c5, rfl, hO5, hb5⟩
        have R5 := hide ((unhide R7).below hb5)
        have B5 := hide ((unhide B7).trans (hb5.mono (unhide B7).size))
        have hE := end4b (unhide R5) (unhide B5) hO5 (unhide HSZ) (unhide R7).1
        clear hb5 hO5 HBC B7
        have r0 := (unhide R5).cell 0 rfl
        have r1 := (unhide R5).cell 1 rfl
        have r2 := (unhide R5).cell 2 rfl
        have r3 := (unhide R5).cell 3 rfl
        have f0 := (unhide R5).fro 0
        have f1 := (unhide R5).fro 1
        have f2 := (unhide R5).fro 2
        have f3 := (unhide R5).fro 3
        have z0 := hE.1.cell 0 rfl
        have z1 := hE.1.cell 1 rfl
        have z2 := hE.1.cell 2 rfl
        have z3 := hE.1.cell 3 rfl
        have HE := hide hE
        unfold set4 at z0 z1 z2 z3
        clear hE
        go_wp2_with fail
        refine bodyPost_ret (v := .tuple #[.agg #[.string D.toBr.key, .string D.toBr.val, .int .i64 D.toBr.at_, .slice sa5 n5 c5], .int .i64 0]) (by simp [results, Tryd.results11, go_sem, z0, z1, z2, z3]) rfl ?_
        exact ⟨_, by rw [unhide HO0], by rw [unhide HO0]; exact (unhide HE).2.1, (unhide HE).2.2⟩
  · have HO : Hid (mpOut (.mk k v a ks) key val = (brOf none, mx)) := hide (by rw [unhide HOD, if_neg hmx])
    have hcb : (mx != 0) = true := by simpa using hmx
    clear HOD HMZ hmx
    have r0 := (unhide R3).cell 0 rfl
    have r1 := (unhide R3).cell 1 rfl
    have r2 := (unhide R3).cell 2 rfl
    have r3 := (unhide R3).cell 3 rfl
    have f0 := (unhide R3).fro 0
    have f1 := (unhide R3).fro 1
    have f2 := (unhide R3).fro 2
    have f3 := (unhide R3).fro 3
    have hE := end4b (b := brOf none) (m := rb + 1) (unhide R3) (unhide B3) (BrO.nil (fun x => rb + 1 ≤ x ∧ x < _) none 0 (by unfold maxLen; omega)) (unhide HSZ) (Nat.lt_succ_self _)
    have z0 := hE.1.cell 0 rfl
    have z1 := hE.1.cell 1 rfl
    have z2 := hE.1.cell 2 rfl
    have z3 := hE.1.cell 3 rfl
    have HE := hide hE
    unfold set4 at z0 z1 z2 z3
    dsimp only [brOf, Br.key, Br.val, Br.at_] at z0 z1 z2 z3
    clear hE
    go_wp2_with fail
    refine bodyPost_ret (v := .tuple #[.agg #[.string ⟨#[]⟩, .string ⟨#[]⟩, .int .i64 0, .slice none 0 0], .int .i64 mx]) (by simp [results, Tryd.results11, go_sem, z0, z1, z2, z3]) rfl ?_
    exact ⟨_, by rw [unhide HO], by rw [unhide HO]; exact (unhide HE).2.1, (unhide HE).2.2⟩
end Go.Proofs.YtgmaappilopgbaaDoor.Sha
namespace Go.Proofs.YtgmaappilopgbaaDoor.Sha
open Go.ChangeShapes Go.WideShapes Go.ChangeAt Go.RowKit
set_option linter.unusedVariables false
set_option linter.unusedSimpArgs false

/-- The map with a key. -/
def mpT (o : Option Tr) (key val : ByteArray) : Tr := match o with
  | none => .leaf key val
  | some t => putT (kh key) (putAt t key) key val t
theorem putT_lvN (h : ByteArray) (a : Nat) (k v : ByteArray) (ha : a ≤ 256) : ∀ t, TrOK t → (putT h a k v t).lvN = if a < 256 then t.lvN + 1 else t.lvN
  | .leaf k' v', ho => by
    unfold putT
    by_cases e : a = 256
    · rw [if_pos e, if_neg (by omega)]; rfl
    · rw [if_neg e, if_pos (by omega)]; unfold forkT; split <;> rfl
  | .fork b hb l r, ho => by
    unfold putT
    by_cases e : b < a
    · rw [if_pos e]
      split
      · show (putT h a k v l).lvN + r.lvN = _
        rw [putT_lvN h a k v ha l ho.2.2.1]
        show _ = if a < 256 then l.lvN + r.lvN + 1 else l.lvN + r.lvN
        split <;> omega
      · show l.lvN + (putT h a k v r).lvN = _
        rw [putT_lvN h a k v ha r ho.2.2.2]
        show _ = if a < 256 then l.lvN + r.lvN + 1 else l.lvN + r.lvN
        split <;> omega
    · rw [if_neg e, if_pos (by have := ho.1; omega)]
      unfold forkT
      split
      · show 1 + (l.lvN + r.lvN) = l.lvN + r.lvN + 1; omega
      · show (l.lvN + r.lvN) + 1 = l.lvN + r.lvN + 1; rfl
theorem tr_cnt : ∀ t : Tr, t.toBr.cnt + 1 ≤ 2 * t.lvN
  | .leaf k v => by rw [Br.cnt_eq]; show 1 + cntL [] + 1 ≤ 2 * 1; unfold cntL; omega
  | .fork a hv l r => by
    have h1 := tr_cnt l
    have h2 := tr_cnt r
    rw [Br.cnt_eq]
    show 1 + cntL [l.toBr, r.toBr] + 1 ≤ 2 * (l.lvN + r.lvN)
    rw [cntL_cons, cntL_cons]
    unfold cntL
    omega
theorem tr_cntL (t : Tr) : cntL t.toBr.kids ≤ 2 * t.lvN := by
  have h := tr_cnt t
  rw [Br.cnt_eq] at h
  omega
theorem mpT_ok {o : Option Tr} {key val : ByteArray} (ho : OkO o) (hkv : TrOK (.leaf key val)) : TrOK (mpT o key val) := by
  cases o with
  | none => exact hkv
  | some t => exact putT_ok (kh key) (putAt t key) key val (fd_le _ _) (kh_size (by have := (okK_iff.1 hkv.1).2; omega)) hkv.1 hkv.2 t ho
set_option maxRecDepth 100000 in
set_option maxHeartbeats 4000000 in
theorem l07Put_any (o : Option Tr) (hok : OkO o) (hri : RiseO o) (hsp : SepO o) (key val : ByteArray) (hkv : TrOK (.leaf key val)) (B0 : Nat) (kv : Value) (w : World) (hB0 : B0 ≤ w.heap.size) (hB : Brs (fun x => x < B0) w kv (brOf o).kids) :
    Calls Tryd.prog 33 #[.agg #[.string (brOf o).key, .string (brOf o).val, .int .i64 (brOf o).at_, kv], .string key, .string val] w fun e w' => DrR B0 (mpT o key val).toBr w e w' := by
  obtain ⟨sa, cap, rfl, hcap, hcm⟩ := hB.shape
  have hk24 := (okK_iff.1 hkv.1).2
  have B1 := hide (((Below.refl w.heap.size w).alloc (Nat.le_refl _) (.cells #[.string (brOf o).key, .string (brOf o).val, .int .i64 (brOf o).at_, .slice sa (brOf o).kids.length cap] 28)).alloc (by simp) (.cells #[.string ⟨#[]⟩, .string ⟨#[]⟩, .int .i64 0, .slice none 0 0] 28))
  have X1 := hide ((Blk.new w #[.string (brOf o).key, .string (brOf o).val, .int .i64 (brOf o).at_, .slice sa (brOf o).kids.length cap] 28 w.heap.size rfl).alloc (.cells #[.string ⟨#[]⟩, .string ⟨#[]⟩, .int .i64 0, .slice none 0 0] 28))
  have R1 := hide (Blk.new (w.alloc (.cells #[.string (brOf o).key, .string (brOf o).val, .int .i64 (brOf o).at_, .slice sa (brOf o).kids.length cap] 28)) #[.string ⟨#[]⟩, .string ⟨#[]⟩, .int .i64 0, .slice none 0 0] 28 (w.heap.size + 1) (by simp))
  have HRS := hide (show w.heap.size < w.heap.size + 1 by omega)
  have HE := hide (fun wx => l07Empty_any (brOf o).key (brOf o).val (brOf o).at_ (brOf o).kids sa cap wx (by omega))
  have e9 : Br.mk (brOf o).key (brOf o).val (brOf o).at_ (brOf o).kids = brOf o := by cases brOf o; rfl
  rw [e9] at HE
  clear e9
  have HKB := hide hB
  have HNW := hide (fun wx => l07New_any key val wx)
  clear hB
  cases o with
  | none =>
    have he : emptyBr (brOf none) = true := (empty_iff _ _ _ _).2 ⟨rfl, rfl, rfl, rfl⟩
    rw [he] at HE
    have HGR : Hid (∀ w', Below w.heap.size w w' → DrR B0 (mpT none key val).toBr w (.returned (.agg #[.string key, .string val, .int .i64 256, .slice none 0 0])) w') := hide (fun w' hb => ⟨none, 0, 0, rfl, .nil _ _ (by unfold maxLen; omega), hb⟩)
    dsimp only [brOf, Br.key, Br.val, Br.at_, Br.kids, List.length_nil] at *
    clear he HKB
    go_enter Tryd.func33, Tryd.ntmps33
    go_wp2_with fail
    generalize (w.alloc (.cells #[.string ⟨#[]⟩, .string ⟨#[]⟩, .int .i64 0, .slice sa 0 cap] 28)).alloc (.cells #[.string ⟨#[]⟩, .string ⟨#[]⟩, .int .i64 0, .slice none 0 0] 28) = w1 at *
    generalize w.heap.size + 1 = R at *
    refine (unhide HE w1).mono ?_
    rintro e w2 ⟨rfl, hb2⟩
    have B2 := hide ((unhide B1).trans (hb2.mono (unhide B1).size))
    have R2 := hide ((unhide R1).below hb2)
    clear hb2 B1 R1 X1
    go_wp2_with fail
    refine (unhide HNW w2).mono ?_
    rintro e w3 ⟨rfl, hb3⟩
    have B3 := hide ((unhide B2).trans (hb3.mono (unhide B2).size))
    have R3 := hide ((unhide R2).below hb3)
    clear hb3 B2 R2
    have r0 := (unhide R3).cell 0 rfl
    have r1 := (unhide R3).cell 1 rfl
    have r2 := (unhide R3).cell 2 rfl
    have r3 := (unhide R3).cell 3 rfl
    have f0 := (unhide R3).fro 0
    have f1 := (unhide R3).fro 1
    have f2 := (unhide R3).fro 2
    have f3 := (unhide R3).fro 3
    have hZ := set4_blk (unhide R3) (.string key) (.string val) (.int .i64 256) (.slice none 0 0)
    have z0 := hZ.cell 0 rfl
    have z1 := hZ.cell 1 rfl
    have z2 := hZ.cell 2 rfl
    have z3 := hZ.cell 3 rfl
    have HT4 := hide (set4_touch w3 R (.string key) (.string val) (.int .i64 256) (.slice none 0 0))
    have HBF := hide ((unhide B3).trans ((unhide HT4).below (unhide B3).size (fun q hq e => by have := (unhide HRS); omega)))
    unfold set4 at z0 z1 z2 z3
    clear hZ
    go_wp2_with fail
    refine bodyPost_ret (v := .agg #[.string key, .string val, .int .i64 256, .slice none 0 0]) (by simp [results, Tryd.results33, go_sem, z0, z1, z2, z3]) rfl ?_
    exact unhide HGR _ (unhide HBF)
  | some t =>
    rw [show emptyBr (brOf (some t)) = false from not_empty hok] at HE
    have HHS := hide (fun wx => l07Hash_any key wx (by omega))
    have hks := kh_size (k := key) (by omega)
    have hlo := lead_ok (kh key) t hok
    have hlk := kh_size (k := (leadL (kh key) t).1) (by have := (okK_iff.1 hlo.1).2; omega)
    dsimp only [brOf] at *
    have HNR := hide (fun wx (hx : Below w.heap.size w wx) => l07Near_any (kh key) hks t hok hri _ _ wx ((unhide HKB).blw hx))
    have HDF := hide (fun wx => l07Differ_any (kh key) (kh (leadL (kh key) t).1) wx hks hlk)
    rw [fd_comm] at HDF
    have HIN := hide (fun wx (hx : Below w.heap.size w wx) => l07Insert_any key val (kh key) hks (fd (kh (leadL (kh key) t).1) (kh key)) (fd_le _ _) hkv t hok 0 hri hsp.1 rfl B0 _ wx (Nat.le_trans hB0 hx.size) ((unhide HKB).blw hx))
    have HMT : Hid (mpT (some t) key val = putT (kh key) (fd (kh (leadL (kh key) t).1) (kh key)) key val t) := rfl
    have HGR : Hid (∀ sa n cap w', Brs (fun x => x < B0 ∨ w.heap.size ≤ x) w' (.slice sa n cap) (putT (kh key) (fd (kh (leadL (kh key) t).1) (kh key)) key val t).toBr.kids → Below w.heap.size w w' → DrR B0 (mpT (some t) key val).toBr w (.returned (.agg #[.string (putT (kh key) (fd (kh (leadL (kh key) t).1) (kh key)) key val t).toBr.key, .string (putT (kh key) (fd (kh (leadL (kh key) t).1) (kh key)) key val t).toBr.val, .int .i64 (putT (kh key) (fd (kh (leadL (kh key) t).1) (kh key)) key val t).toBr.at_, .slice sa n cap])) w') := hide (fun sa n cap w' h1 hb => ⟨sa, n, cap, rfl, h1, hb⟩)
    generalize (putT (kh key) (fd (kh (leadL (kh key) t).1) (kh key)) key val t).toBr = D at *
    generalize kh (leadL (kh key) t).1 = lh at *
    generalize fd lh (kh key) = A at *
    generalize kh key = hh at *
    clear hlo hlk hks hok hri hsp hkv HMT HKB
    go_enter Tryd.func33, Tryd.ntmps33
    go_wp2_with fail
    generalize (w.alloc (.cells #[.string t.toBr.key, .string t.toBr.val, .int .i64 t.toBr.at_, .slice sa t.toBr.kids.length cap] 28)).alloc (.cells #[.string ⟨#[]⟩, .string ⟨#[]⟩, .int .i64 0, .slice none 0 0] 28) = w1 at *
    generalize w.heap.size + 1 = R at *
    refine (unhide HE w1).mono ?_
    rintro e w2 ⟨rfl, hb2⟩
    have B2 := hide ((unhide B1).trans (hb2.mono (unhide B1).size))
    have X2 := hide ((unhide X1).below hb2)
    have R2 := hide ((unhide R1).below hb2)
    clear hb2 B1 R1 X1 HE
    go_wp2_with fail
    refine (unhide HHS w2).mono ?_
    rintro e w3 ⟨rfl, hb3⟩
    have B3 := hide ((unhide B2).trans (hb3.mono (unhide B2).size))
    have X3 := hide ((unhide X2).below hb3)
    have R3 := hide ((unhide R2).below hb3)
    clear hb3 B2 X2 R2 HHS
    have x0 := (unhide X3).cell 0 rfl
    have x1 := (unhide X3).cell 1 rfl
    have x2 := (unhide X3).cell 2 rfl
    have x3 := (unhide X3).cell 3 rfl
    go_wp2_with fail
    refine (unhide HNR w3 (unhide B3)).mono ?_
    rintro e w4 ⟨rfl, hb4⟩
    have B4 := hide ((unhide B3).trans (hb4.mono (unhide B3).size))
    have X4 := hide ((unhide X3).below hb4)
    have R4 := hide ((unhide R3).below hb4)
    clear hb4 B3 X3 R3 HNR x0 x1 x2 x3
    go_wp2_with fail
    refine (unhide HDF w4).mono ?_
    rintro e w9 ⟨rfl, hw9⟩
    subst w9
    have x0 := (unhide X4).cell 0 rfl
    have x1 := (unhide X4).cell 1 rfl
    have x2 := (unhide X4).cell 2 rfl
    have x3 := (unhide X4).cell 3 rfl
    have HSX : Hid (∀ wx, Below w4.heap.size w4 wx → wx.cell? ⟨w.heap.size, 0, none⟩ = some (.string t.toBr.key) ∧ wx.cell? ⟨w.heap.size, 1, none⟩ = some (.string t.toBr.val) ∧ wx.cell? ⟨w.heap.size, 2, none⟩ = some (.int .i64 t.toBr.at_) ∧ wx.cell? ⟨w.heap.size, 3, none⟩ = some (.slice sa t.toBr.kids.length cap)) := hide (fun wx hb => by
      have X := (unhide X4).below hb
      exact ⟨X.cell 0 rfl, X.cell 1 rfl, X.cell 2 rfl, X.cell 3 rfl⟩)
    go_upto_region 5 with fail
    go_cut [] (fun wx => ∃ (w7 : World) (s7 : Option Addr) (n7 c7 : Nat), Brs (fun x => x < B0 ∨ w4.heap.size ≤ x) w7 (.slice s7 n7 c7) D.kids ∧ Below w4.heap.size w4 w7 ∧ wx = set4 w7 R (.string D.key) (.string D.val) (.int .i64 D.at_) (.slice s7 n7 c7))
    case first =>
      go_wp2_with fail
      go_region_law (first
        | (go_simp; go_at_call 72; refine (unhide HIN w5 ((unhide B4).trans ((unhide HB5).mono (unhide B4).size))).mono ?_; rintro e w7 ⟨s7, n7, c7, rfl, hBr7, hb7⟩; (have HB7 := hide (And.intro (hBr7.mono (T := fun x => x < B0 ∨ w4.heap.size ≤ x) (fun x hx => by have := (unhide HB5).size; omega)) ((unhide HB5).trans (hb7.mono (unhide HB5).size)))); clear hBr7 hb7; (have R7 := (unhide R4).below (unhide HB7).2); (have r0 := R7.cell 0 rfl); (have r1 := R7.cell 1 rfl); (have r2 := R7.cell 2 rfl); (have r3 := R7.cell 3 rfl); (have f0 := R7.fro 0); (have f1 := R7.fro 1); (have f2 := R7.fro 2); (have f3 := R7.fro 3); clear R7; go_simp)
        | (go_simp; go_at_call 68; refine (unhide HNW _).mono ?_; rintro e w5 ⟨rfl, hb5⟩; (have HB5 := hide ((below_drewN (Below.refl w4.heap.size w4) 1).trans hb5)); clear hb5; (obtain ⟨y0, y1, y2, y3⟩ := unhide HSX w5 (unhide HB5)); go_simp))
      all_goals
        go_wp2_with fail
        go_meet
        exact ⟨w7, s7, n7, c7, (unhide HB7).1, (unhide HB7).2, rfl⟩
    case rest =>
      obtain ⟨w7, s7, n7, c7, hBr7, hb7, hwc⟩ := hcut
      have B7 := (unhide B4).trans (hb7.mono (unhide B4).size)
      have hZ := set4_blk ((unhide R4).below hb7) (.string D.key) (.string D.val) (.int .i64 D.at_) (.slice s7 n7 c7)
      have HT4 := set4_touch w7 R (.string D.key) (.string D.val) (.int .i64 D.at_) (.slice s7 n7 c7)
      rw [← hwc] at hZ HT4
      have HBF := hide (B7.trans (HT4.below B7.size (fun q hq e => by have := (unhide HRS); omega)))
      have hR4 := (unhide R4).1
      have HBR := hide ((hBr7.touch HT4 (fun q hq e => by have e2 : q = R := e; have := unhide HRS; omega)).mono (T := fun x => x < B0 ∨ w.heap.size ≤ x) (fun x hx => by have := (unhide B4).size; omega))
      have z0 := hZ.cell 0 rfl
      have z1 := hZ.cell 1 rfl
      have z2 := hZ.cell 2 rfl
      have z3 := hZ.cell 3 rfl
      clear hZ HT4 B7 hBr7 hb7 hwc B4 X4 R4 x0 x1 x2 x3 HSX HIN HNW HDF
      obtain ⟨w8, hw8⟩ : ∃ w8, w8 = wc := ⟨_, rfl⟩
      subst hw8
      go_wp2_with fail
      refine bodyPost_ret (v := .agg #[.string D.key, .string D.val, .int .i64 D.at_, .slice s7 n7 c7]) (by simp [results, Tryd.results33, go_sem, z0, z1, z2, z3]) rfl ?_
      exact unhide HGR _ _ _ _ (unhide HBR) (unhide HBF)
end Go.Proofs.YtgmaappilopgbaaDoor.Sha
namespace Go.Proofs.YtgmaappilopgbaaDoor.Sha
open Go.ChangeShapes Go.WideShapes Go.ChangeAt Go.RowKit
set_option linter.unusedVariables false
set_option linter.unusedSimpArgs false

theorem fork_cnt (a : Nat) (hv : ByteArray) (l r : Tr) : (Tr.fork a hv l r).toBr.cnt = 1 + (l.toBr.cnt + r.toBr.cnt) := by
  rw [Br.cnt_eq]
  show 1 + cntL [l.toBr, r.toBr] = _
  rw [cntL_cons, cntL_cons]
  unfold cntL
  omega
theorem drop_cnt (h : ByteArray) : ∀ (t t' : Tr), dropT h t = some t' → t'.toBr.cnt ≤ t.toBr.cnt
  | .leaf k v, t', e => by cases e
  | .fork a hv l r, t', e => by
    have h1 := drop_cnt h l
    have h2 := drop_cnt h r
    rw [fork_cnt]
    rcases bitN_01 h a with hb | hb
    · rw [drop_0 h a hv l r hb] at e
      cases hd : dropT h l with
      | none => rw [hd] at e; cases e; show r.toBr.cnt ≤ _; omega
      | some l' => rw [hd] at e; cases e; have := h1 l' hd; show (Tr.fork a hv l' r).toBr.cnt ≤ _; rw [fork_cnt]; omega
    · rw [drop_1 h a hv l r hb] at e
      cases hd : dropT h r with
      | none => rw [hd] at e; cases e; show l.toBr.cnt ≤ _; omega
      | some r' => rw [hd] at e; cases e; have := h2 r' hd; show (Tr.fork a hv l r').toBr.cnt ≤ _; rw [fork_cnt]; omega
theorem drop_cntL (h : ByteArray) (t : Tr) : cntL (brOf (dropT h t)).kids ≤ cntL t.toBr.kids := by
  cases hd : dropT h t with
  | none => show cntL [] ≤ _; unfold cntL; omega
  | some t' =>
    have q := drop_cnt h t t' hd
    rw [Br.cnt_eq, Br.cnt_eq t.toBr] at q
    show cntL t'.toBr.kids ≤ _
    omega
end Go.Proofs.YtgmaappilopgbaaDoor.Sha
